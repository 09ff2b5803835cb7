/- What Bytes answers. -/
import Derived.Test.YtllaajkpobpeiaaOJFrameI
namespace Go.Proofs.Ytllaajkpobpeiaa
open Go.RowKit
/-- The first k of some bytes. -/
def bL (k : Nat) (d : Nat → Int) : List Int := (List.range k).map d
theorem bL_len (k : Nat) (d : Nat → Int) : (bL k d).length = k := by simp [bL]
theorem bL_get (k : Nat) (d : Nat → Int) (j : Nat) (h : j < k) : (bL k d).getD j 0 = d j := by simp [bL, List.getD, h]
theorem bL_succ (k : Nat) (d : Nat → Int) : bL (k + 1) d = bL k d ++ [d k] := by simp [bL, List.range_succ]
theorem bL_range (k : Nat) (d : Nat → Int) (hk : k ≤ 8) (hd : ∀ j, j < 8 → 0 ≤ d j ∧ d j ≤ 255) : ∀ x ∈ bL k d, 0 ≤ x ∧ x ≤ 255 := by
  intro x hx
  simp only [bL, List.mem_map, List.mem_range] at hx
  obtain ⟨j, hj, rfl⟩ := hx
  exact hd j (by omega)
/-- A frame's bytes. -/
def bOf (id : Int) (r : Bool) (n : Int) (d : Nat → Int) : List Int := if r = false ∧ chk id r n d = 0 then bL n.toNat d else []
theorem bOf_nil {id n : Int} {r : Bool} {d : Nat → Int} (h : ¬ (r = false ∧ chk id r n d = 0)) : bOf id r n d = [] := if_neg h
theorem bOf_some {id : Int} {k : Nat} {d : Nat → Int} (h : chk id false k d = 0) : bOf id false k d = bL k d := by unfold bOf; rw [if_pos ⟨rfl, h⟩, Int.toNat_natCast]

/-- A frame's first bytes are copied out of it. -/
theorem wpList_dump {wr : World} {ops : Array Oper} {rest : List Oper} {o : Oper} {a : Act} {Q : Exit → Act → World → Prop} {g gb k : Nat} {id n : Int} {r : Bool} {d : Nat → Int} (hgd : o.guard = none) (s t : Operand)
    (ho : o.op = .call { callee := .builtin .copy, args := #[s, t], argTypes := #[43, 43] }) (hs : a.eval s = .slice (some ⟨gb, 0, none⟩) k k) (ht : a.eval t = .slice (some ⟨g, 3, none⟩) 8 8) (hk : k ≤ 8)
    (cur : Array Value) (hrow : wr.heap[gb]? = some (.cells cur 5 (0, 0))) (hcur : cur.size = k) (h : FrAt wr g id r n d) (hd : ∀ j, j < 8 → 0 ≤ d j ∧ d j ≤ 255)
    (hK : ∀ w', Byt w' (gb + 1) (some ⟨gb, 0, none⟩) k k (bL k d) → wr.grownBy w' (some gb) → wpList Try.prog ops Q rest (a.put o.dst (goInt (k : Int))) w') :
    wpList Try.prog ops Q (o :: rest) a wr := by
  have hl : ((bL k d).map (Value.int .u8)).length = k := by simp [bL_len]
  refine wpList_copy_own hgd s t _ _ ho 5 Try.underlying43 info_byte gb 0 k k ⟨g, 3, none⟩ 8 8 hs ht cur 5 hrow ((bL k d).map (Value.int .u8)) (by rw [hl]; exact (Nat.min_eq_right hk).symm) ?_ (by rw [hl]; omega) (fun v hv => by simp only [List.mem_map] at hv; obtain ⟨x, _, rfl⟩ := hv; rfl) ?_
  · intro j v hv
    have hj : j < k := by rw [← hl]; exact (List.getElem?_eq_some_iff.1 hv).1
    have : (⟨g, 3, none⟩ : Addr).add j = ⟨g, 3 + j, none⟩ := by simp [Addr.add]
    rw [this, h.byte (i := j) (by omega), ← hv]
    simp [bL, hj]
  · have e : (cur.toList.take 0 ++ ((bL k d).map (Value.int .u8) ++ cur.toList.drop (0 + ((bL k d).map (Value.int .u8)).length))).toArray = ((bL k d).map (Value.int .u8)).toArray := by
      rw [hl, Nat.zero_add, List.drop_eq_nil_of_le (by simp [hcur])]; simp
    rw [e, hl]
    refine hK _ ⟨bL_len k d, Nat.le_refl _, by simp only [maxLen]; omega, bL_range k d hk hd, fun _ => ⟨gb, 0, rfl, by omega, fun j hj => ?_⟩⟩ ⟨rfl, rfl, rfl, by simp, fun i _ hi => setRow_other wr gb i _ fun e => hi (by rw [e])⟩
    rw [cell_of_row _ _ _ _ _ _ (setRow_heap wr gb _ _ _ _ hrow), Nat.zero_add, bL_get k d j hj]
    simp [bL, hj]

theorem bytes_rtr (id n : Int) (d : Nat → Int) (w : World) :
    Calls Try.prog 79 #[.agg #[.int .i64 id, .bool true, .int .i64 n, .int .u8 (d 0), .int .u8 (d 1), .int .u8 (d 2), .int .u8 (d 3), .int .u8 (d 4), .int .u8 (d 5), .int .u8 (d 6), .int .u8 (d 7)]] w fun e w' => e = .returned (.slice none 0 0) ∧ Below w.heap.size w w' := by
  have hb : Below w.heap.size w (w.alloc (.cells #[.int .i64 id, .bool true, .int .i64 n, .int .u8 (d 0), .int .u8 (d 1), .int .u8 (d 2), .int .u8 (d 3), .int .u8 (d 4), .int .u8 (d 5), .int .u8 (d 6), .int .u8 (d 7)] 57)) := (Below.refl _ _).alloc (Nat.le_refl _) _
  have HB := Lib.hid hb
  clear hb
  go_enter Try.func79, Try.ntmps79
  go_wp2_with fail
  all_goals exact bodyPost_ret (results_tmp rfl _ _ _) rfl ⟨rfl, HB.out⟩
theorem bytes_no (id n : Int) (d : Nat → Int) (w : World) (hc : ¬ chk id false n d = 0) :
    Calls Try.prog 79 #[.agg #[.int .i64 id, .bool false, .int .i64 n, .int .u8 (d 0), .int .u8 (d 1), .int .u8 (d 2), .int .u8 (d 3), .int .u8 (d 4), .int .u8 (d 5), .int .u8 (d 6), .int .u8 (d 7)]] w fun e w' => e = .returned (.slice none 0 0) ∧ Below w.heap.size w w' := by
  have hf := frame_new w id n false d
  have hb : Below w.heap.size w (w.alloc (.cells #[.int .i64 id, .bool false, .int .i64 n, .int .u8 (d 0), .int .u8 (d 1), .int .u8 (d 2), .int .u8 (d 3), .int .u8 (d 4), .int .u8 (d 5), .int .u8 (d 6), .int .u8 (d 7)] 57)) := (Below.refl _ _).alloc (Nat.le_refl _) _
  have hs : w.heap.size < (w.alloc (.cells #[.int .i64 id, .bool false, .int .i64 n, .int .u8 (d 0), .int .u8 (d 1), .int .u8 (d 2), .int .u8 (d 3), .int .u8 (d 4), .int .u8 (d 5), .int .u8 (d 6), .int .u8 (d 7)] 57)).heap.size := by simp
  have HB := Lib.hid hb
  have HF := Lib.hid hf
  have HS := Lib.hid hs
  have hca := fun w => check_any id n false d w
  generalize chk id false n d = q at hca hc
  have HCA := Lib.hid hca
  clear hb hf hs hca
  go_enter Try.func79, Try.ntmps79
  go_wp2_with (go_at_call 62; refine (HCA.out _).mono ?_; rintro e w1 ⟨rfl, hb1⟩; have hbw := HB.out.trans (hb1.mono HB.out.size))
  all_goals exact bodyPost_ret (results_tmp rfl _ _ _) rfl ⟨rfl, hbw⟩
theorem bytes_ok (id : Int) (k : Nat) (d : Nat → Int) (w : World) (hc : chk id false k d = 0) (hd : ∀ j, j < 8 → 0 ≤ d j ∧ d j ≤ 255) :
    Calls Try.prog 79 #[.agg #[.int .i64 id, .bool false, .int .i64 (k : Int), .int .u8 (d 0), .int .u8 (d 1), .int .u8 (d 2), .int .u8 (d 3), .int .u8 (d 4), .int .u8 (d 5), .int .u8 (d 6), .int .u8 (d 7)]] w fun e w' => ∃ g, e = .returned (.slice (some ⟨g, 0, none⟩) k k) ∧ Byt w' w'.heap.size (some ⟨g, 0, none⟩) k k (bL k d) ∧ Below w.heap.size w w' := by
  have hk := (chk_len hc).2
  have hk8 : k ≤ 8 := by omega
  have hf := frame_new w id k false d
  have hb : Below w.heap.size w (w.alloc (.cells #[.int .i64 id, .bool false, .int .i64 (k : Int), .int .u8 (d 0), .int .u8 (d 1), .int .u8 (d 2), .int .u8 (d 3), .int .u8 (d 4), .int .u8 (d 5), .int .u8 (d 6), .int .u8 (d 7)] 57)) := (Below.refl _ _).alloc (Nat.le_refl _) _
  have hs : w.heap.size < (w.alloc (.cells #[.int .i64 id, .bool false, .int .i64 (k : Int), .int .u8 (d 0), .int .u8 (d 1), .int .u8 (d 2), .int .u8 (d 3), .int .u8 (d 4), .int .u8 (d 5), .int .u8 (d 6), .int .u8 (d 7)] 57)).heap.size := by simp
  have HB := Lib.hid hb
  have HF := Lib.hid hf
  have HS := Lib.hid hs
  have hca := fun w => check_any id k false d w
  simp only [hc] at hca
  have hmk := make_row k (by omega)
  have HCA := Lib.hid hca
  clear hb hf hs hca hc
  go_enter Try.func79, Try.ntmps79
  go_wp2_with (first
    | (go_at_call 62; refine (HCA.out _).mono ?_; rintro e w1 ⟨rfl, hb1⟩; have hf1 := FrAt.below HF.out hb1 HS.out; have hbw := HB.out.trans (hb1.mono HB.out.size); obtain ⟨c0, c1, c2, c3, c4, c5, c6, c7, c8, c9, c10⟩ := hf1.cells; clear c0 c1 c3 c4 c5 c6 c7 c8 c9 c10; have HF1 := Lib.hid hf1; clear hf1 hb1)
    | (refine wpList_dump rfl (.tmp 14) (.tmp 16) rfl rfl rfl hk8 _ (heap_alloc_new w1 _) (by simp [madeCells]) (FrAt.below HF1.out ((Below.refl _ _).alloc (Nat.le_refl _) _) HF1.out.lt) hd ?_; intro w3 hB3 hg3; have hb3 := (hbw.alloc hbw.size (.cells (madeCells #[.int .u8 0] k) 5)).grown hg3 (Nat.le_trans hbw.size (by simp)) (fun j e => by cases e; exact hbw.size); have hs3 := hg3.size))
  all_goals exact bodyPost_ret (results_tmp rfl _ _ _) rfl ⟨w1.heap.size, rfl, hB3.more (by have := hs3; simp at this; omega), hb3⟩
theorem bytes_any (id n : Int) (r : Bool) (d : Nat → Int) (w : World) (hd : ∀ j, j < 8 → 0 ≤ d j ∧ d j ≤ 255) :
    Calls Try.prog 79 #[.agg #[.int .i64 id, .bool r, .int .i64 n, .int .u8 (d 0), .int .u8 (d 1), .int .u8 (d 2), .int .u8 (d 3), .int .u8 (d 4), .int .u8 (d 5), .int .u8 (d 6), .int .u8 (d 7)]] w fun e w' => ∃ A c, e = .returned (.slice A (bOf id r n d).length c) ∧ Byt w' w'.heap.size A (bOf id r n d).length c (bOf id r n d) ∧ Below w.heap.size w w' := by
  cases r with
  | true =>
    rw [bOf_nil (by simp)]
    refine (bytes_rtr id n d w).mono ?_
    rintro e w' ⟨rfl, hb⟩
    exact ⟨none, 0, rfl, Byt.nil_ _ _, hb⟩
  | false =>
    by_cases hc : chk id false n d = 0
    · obtain ⟨k, rfl⟩ : ∃ k : Nat, n = k := ⟨n.toNat, by have := chk_len hc; omega⟩
      rw [bOf_some hc, bL_len]
      refine (bytes_ok id k d w hc hd).mono ?_
      rintro e w' ⟨g, rfl, hB, hb⟩
      exact ⟨_, _, rfl, hB, hb⟩
    · rw [bOf_nil (by simp [hc])]
      refine (bytes_no id n d w hc).mono ?_
      rintro e w' ⟨rfl, hb⟩
      exact ⟨none, 0, rfl, Byt.nil_ _ _, hb⟩
end Go.Proofs.Ytllaajkpobpeiaa