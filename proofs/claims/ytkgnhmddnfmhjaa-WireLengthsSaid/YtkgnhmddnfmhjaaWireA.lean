/- What number and core answer. -/
import Derived.Test.YtkgnhmddnfmhjaaWFrameS
import Derived.Maps.AppendAt
namespace Go.Proofs.Ytkgnhmddnfmhjaa
open Go.RowKit

/-- Many bytes behind a row of the call's own, and where the new row lies. -/
theorem wpList_bytes_at {P : Program} {wr : World} {ops : Array Oper} {rest : List Oper} {o : Oper} {a : Act} {Q : Exit → Act → World → Prop} {base t e n m B c : Nat} {A : Option Addr} {l l2 : List Int} {v : Value} (hgd : o.guard = none) (s x : Operand)
    (ho : o.op = .call { callee := .builtin .append, args := #[s, x], argTypes := #[t, t] }) (ht : P.underlying t = some (.slice e))
    (hinfo : (P.info? e).map (fun i => (i.zero, i.size, i.bytes)) = some (some (.int .u8 0), 1, 1)) (hs : a.eval s = v) (hown : wr.ownsRow base e 1 v n (l.map (Value.int .u8)))
    (hx : a.eval x = .slice A m c) (hB : Byt wr B A m c l2) (hn : n + m ≤ 140737488355328) (hb : base ≤ wr.heap.size)
    (h : ∀ v' w', w'.ownsRow base e 1 v' (n + m) ((l ++ l2).map (Value.int .u8)) → wr.grownBy w' v.ownBlock → (v'.ownBlock = v.ownBlock ∨ v'.ownBlock = some wr.heap.size) → wpList P ops Q rest (a.put o.dst v') w') :
    wpList P ops Q (o :: rest) a wr := by
  obtain ⟨i0, hi, hz0, hz1, hz2⟩ := info_parts hinfo
  cases A with
  | none =>
    have hm : m = 0 := by
      rcases Nat.eq_zero_or_pos m with h0 | h0
      · exact h0
      · obtain ⟨b, off, e', _⟩ := hB.cells h0
        cases e'
    subst hm
    obtain rfl := List.eq_nil_of_length_eq_zero hB.len
    refine wpList_plain hgd fun K hK => ?_
    have hrun := run_bytes_nil (P := P) (w := wr) (ty := o.type) (c := c) ht hi hown
    unfold Oper.wp
    simp [execOp, ho, resolve, invoke, builtin, hs, hx, hrun, Result.andThen]
    exact hK _ _ (h v wr (by simpa using hown) (World.grownBy.refl _ _) (.inl rfl))
  | some ad =>
    refine wpList_append_own_at _ hgd s x t ho base e i0 (.int .u8 0) 1 1 ht hi hz0 hz1 hz2 rfl (by omega) v n (l.map (Value.int .u8)) hs hown ad m c (l2.map (Value.int .u8)) hx (by simp [hB.len]) ?_ (ints_oneCell _ _) (by simp only [maxLen]; omega) (by omega) hb ?_
    · intro j u hu
      have hj : j < m := by
        rcases Nat.lt_or_ge j m with h1 | h1
        · exact h1
        · rw [List.getElem?_eq_none (by simp [hB.len]; omega)] at hu; cases hu
      obtain ⟨b, off, e', _, hc⟩ := hB.cells (by omega)
      cases e'
      have hplain : (⟨b, off, none⟩ : Addr).add j = ⟨b, off + j, none⟩ := by unfold Addr.add; split <;> simp_all
      rw [hplain, hc j hj]
      rw [List.getElem?_map, List.getElem?_eq_getElem (by rw [hB.len]; exact hj)] at hu
      simp only [Option.map_some, Option.some.injEq] at hu
      subst hu
      simp [List.getD, List.getElem?_eq_getElem (show j < l2.length by rw [hB.len]; exact hj)]
    · intro v' w' h1 h2 _ h4
      exact h v' w' (by simpa using h1) h2 h4


theorem bytes_ok2 (id : Int) (k : Nat) (d : Nat → Int) (w : World) (hc : chk id false k d = 0) (hd : ∀ j, j < 8 → 0 ≤ d j ∧ d j ≤ 255) :
    Calls Try.prog 27 #[.agg #[.int .i64 id, .bool false, .int .i64 (k : Int), .int .u8 (d 0), .int .u8 (d 1), .int .u8 (d 2), .int .u8 (d 3), .int .u8 (d 4), .int .u8 (d 5), .int .u8 (d 6), .int .u8 (d 7)]] w fun e w' => ∃ g, e = .returned (.slice (some ⟨g, 0, none⟩) k k) ∧ w.heap.size ≤ g ∧ Byt w' w'.heap.size (some ⟨g, 0, none⟩) k k (bL k d) ∧ Below w.heap.size w w' := by
  have hk := (chk_len hc).2
  have hk8 : k ≤ 8 := by omega
  have hf := frame_new w id k false d
  have hb : Below w.heap.size w (w.alloc (.cells #[.int .i64 id, .bool false, .int .i64 (k : Int), .int .u8 (d 0), .int .u8 (d 1), .int .u8 (d 2), .int .u8 (d 3), .int .u8 (d 4), .int .u8 (d 5), .int .u8 (d 6), .int .u8 (d 7)] 24)) := (Below.refl _ _).alloc (Nat.le_refl _) _
  have hs : w.heap.size < (w.alloc (.cells #[.int .i64 id, .bool false, .int .i64 (k : Int), .int .u8 (d 0), .int .u8 (d 1), .int .u8 (d 2), .int .u8 (d 3), .int .u8 (d 4), .int .u8 (d 5), .int .u8 (d 6), .int .u8 (d 7)] 24)).heap.size := by simp
  have HB := Lib.hid hb
  have HF := Lib.hid hf
  have HS := Lib.hid hs
  have hca := fun w => check_any id k false d w
  simp only [hc] at hca
  have hmk := make_row k (by omega)
  have HCA := Lib.hid hca
  clear hb hf hs hca hc
  go_enter Try.func27, Try.ntmps27
  go_wp2_with (first
    | (go_at_call 16; refine (HCA.out _).mono ?_; rintro e w1 ⟨rfl, hb1⟩; have hf1 := FrAt.below HF.out hb1 HS.out; have hbw := HB.out.trans (hb1.mono HB.out.size); obtain ⟨c0, c1, c2, c3, c4, c5, c6, c7, c8, c9, c10⟩ := hf1.cells; clear c0 c1 c3 c4 c5 c6 c7 c8 c9 c10; have HF1 := Lib.hid hf1; clear hf1 hb1)
    | (refine wpList_dump rfl (.tmp 14) (.tmp 16) rfl rfl rfl hk8 _ (heap_alloc_new w1 _) (by simp [madeCells]) (FrAt.below HF1.out ((Below.refl _ _).alloc (Nat.le_refl _) _) HF1.out.lt) hd ?_; intro w3 hB3 hg3; have hb3 := (hbw.alloc hbw.size (.cells (madeCells #[.int .u8 0] k) 5)).grown hg3 (Nat.le_trans hbw.size (by simp)) (fun j e => by cases e; exact hbw.size); have hs3 := hg3.size))
  all_goals exact bodyPost_ret (results_tmp rfl _ _ _) rfl ⟨w1.heap.size, rfl, hbw.size, hB3.more (by have := hs3; simp at this; omega), hb3⟩

/-- A frame's bytes lie where nothing lay ahead of the call. -/
theorem bytes_new (id n : Int) (r : Bool) (d : Nat → Int) (w : World) (hd : ∀ j, j < 8 → 0 ≤ d j ∧ d j ≤ 255) :
    Calls Try.prog 27 #[.agg #[.int .i64 id, .bool r, .int .i64 n, .int .u8 (d 0), .int .u8 (d 1), .int .u8 (d 2), .int .u8 (d 3), .int .u8 (d 4), .int .u8 (d 5), .int .u8 (d 6), .int .u8 (d 7)]] w fun e w' => ∃ A c, e = .returned (.slice A (bOf id r n d).length c) ∧ (∀ b off, A = some ⟨b, off, none⟩ → w.heap.size ≤ b) ∧ Byt w' w'.heap.size A (bOf id r n d).length c (bOf id r n d) ∧ Below w.heap.size w w' := by
  cases r with
  | true =>
    rw [bOf_nil (by simp)]
    refine (bytes_rtr id n d w).mono ?_
    rintro e w' ⟨rfl, hb⟩
    exact ⟨none, 0, rfl, ⟨fun _ _ h => (by cases h), Byt.nil_ _ _, hb⟩⟩
  | false =>
    by_cases hc : chk id false n d = 0
    · obtain ⟨k, rfl⟩ : ∃ k : Nat, n = k := ⟨n.toNat, by have := chk_len hc; omega⟩
      rw [bOf_some hc, bL_len]
      refine (bytes_ok2 id k d w hc hd).mono ?_
      rintro e w' ⟨g, rfl, hg, hB, hb⟩
      exact ⟨_, _, rfl, ⟨fun _ _ h => by cases h; exact hg, hB, hb⟩⟩
    · rw [bOf_nil (by simp [hc])]
      refine (bytes_no id n d w hc).mono ?_
      rintro e w' ⟨rfl, hb⟩
      exact ⟨none, 0, rfl, ⟨fun _ _ h => (by cases h), Byt.nil_ _ _, hb⟩⟩
theorem grown_of_below {w w' : World} {row : Option Nat} (h : Below w.heap.size w w') : w.grownBy w' row := ⟨h.os, h.tape, h.output, h.size, fun k hk _ => h.block k hk⟩
theorem grown_then {a b c : World} {row : Option Nat} (h : a.grownBy b row) (k : b.grownBy c row) : a.grownBy c row :=
  ⟨k.os.trans h.os, k.tape.trans h.tape, k.output.trans h.output, Nat.le_trans h.size k.size, fun i hi h1 => (k.block i (Nat.lt_of_lt_of_le hi h.size) h1).trans (h.block i hi h1)⟩
/-- Bytes that do not lie in the row that grew. -/
theorem Byt.grown {w w' : World} {A : Option Addr} {n c : Nat} {l : List Int} {row : Option Nat} (h : Byt w w.heap.size A n c l) (hg : w.grownBy w' row) (hs : ∀ b off, A = some ⟨b, off, none⟩ → row ≠ some b) : Byt w' w'.heap.size A n c l :=
  ⟨h.len, h.cap, h.max, h.rng, fun h0 => by
    obtain ⟨b, off, e, hb, hc⟩ := h.cells h0
    exact ⟨b, off, e, Nat.lt_of_lt_of_le hb hg.size, fun j hj => hg.cell (hc j hj) (fun e2 => hs b off e e2.symm)⟩⟩

theorem number_at (base k N : Nat) (v : Value) (l : List Int) (K W : Int) (wr : World) (hown : wr.ownsRow base 5 1 v k (l.map (Value.int .u8))) (hb : base ≤ wr.heap.size) (hK : 0 ≤ K ∧ K ≤ 4294967295) (hN : clampW W = N) (hk : k ≤ 1000000) :
    Calls Try.prog 26 #[v, .int .i64 K, .int .i64 W] wr fun e w' => ∃ v', e = .returned v' ∧ w'.ownsRow base 5 1 v' (k + N) ((l ++ ofL K N).map (Value.int .u8)) ∧ wr.grownBy w' v.ownBlock ∧ (v'.ownBlock = v.ownBlock ∨ ∃ g, v'.ownBlock = some g ∧ wr.heap.size ≤ g) := by
  have hN2 : N ≤ 32 := by rw [← hN]; exact clamp_le W
  have hof := fun w => of_any K W w hK
  rw [hN] at hof
  have hw : IntKind.u32.wrap K = K := IntWalk.u32_in _ (by omega)
  have HO := Lib.hid hown
  have HOF := Lib.hid hof
  clear hown hof hN
  go_enter Try.func26, Try.ntmps26
  go_wp2_with (first
    | (go_at_call 37; refine (HOF.out _).mono ?_; rintro e w1 ⟨A1, c1, rfl, hB1, hb1⟩; have ho1 := own_below HO.out hb1)
    | (at_builtin; refine wpList_bytes_at rfl (.tmp 7) (.tmp 11) rfl Try.underlying25 byte_info rfl ho1 rfl hB1 (by omega) (Nat.le_trans hb hb1.size) ?_; intro v2 w2 ho2 hg2 hat2))
  exact bodyPost_ret (results_tmp rfl _ _ _) rfl ⟨v2, rfl, ho2, grown_then (grown_of_below hb1) hg2, hat2.imp id fun h => ⟨_, h, hb1.size⟩⟩

/-- A frame lies in a block of its own, and a row grows behind it. -/
structure Cs (i n : Int) (r : Bool) (d : Nat → Int) (w : World) (v : Value) (k : Nat) (l : List Int) (wr : World) : Prop where
  own : wr.ownsRow (w.heap.size + 1) 5 1 v k (l.map (Value.int .u8))
  fr : FrAt wr w.heap.size i r n d
  bel : Below w.heap.size w wr
  sz : w.heap.size + 1 ≤ wr.heap.size
section
variable {i n : Int} {r : Bool} {d : Nat → Int} {w wr w' : World} {v v' : Value} {k N : Nat} {l : List Int} {K W : Int}
theorem Cs.grown {k' : Nat} {l' : List Int} (h : Cs i n r d w v k l wr) (hg : wr.grownBy w' v.ownBlock) (ho : w'.ownsRow (w.heap.size + 1) 5 1 v' k' (l'.map (Value.int .u8))) : Cs i n r d w v' k' l' w' :=
  ⟨ho, (hg.block w.heap.size h.fr.lt (fun e => by have := h.own.lt _ e.symm; omega)).trans h.fr, h.bel.grown hg h.bel.size (fun j e => by have := h.own.lt _ e; omega), Nat.le_trans h.sz hg.size⟩
theorem Cs.step (h : Cs i n r d w v k l wr) (hb : Below wr.heap.size wr w') : Cs i n r d w v k l w' := h.grown (grown_of_below hb) (own_below h.own hb)
theorem Cs.num (h : Cs i n r d w v k l wr) (hK : 0 ≤ K ∧ K ≤ 4294967295) (hN : clampW W = N) (hk : k ≤ 1000000) :
    Calls Try.prog 26 #[v, .int .i64 K, .int .i64 W] wr fun e w' => ∃ v', e = .returned v' ∧ Cs i n r d w v' (k + N) (l ++ ofL K N) w' ∧ wr.grownBy w' v.ownBlock ∧ (v'.ownBlock = v.ownBlock ∨ ∃ g, v'.ownBlock = some g ∧ wr.heap.size ≤ g) :=
  (number_at (w.heap.size + 1) k N v l K W wr h.own h.sz hK hN hk).mono fun _ _ ⟨v', he, ho, hg, ha⟩ => ⟨v', he, h.grown hg ho, hg, ha⟩
end
theorem cw1 : clampW 1 = 1 := by decide
theorem cw2 : clampW 2 = 2 := by decide
theorem cw4 : clampW 4 = 4 := by decide
theorem cw8 : clampW 8 = 8 := by decide
theorem cw11 : clampW 11 = 11 := by decide
theorem cw15 : clampW 15 = 15 := by decide

/-- A frame's core: ahead of its bytes; ahead of its check; the whole. -/
def headL (i n : Int) (r : Bool) : List Int := [] ++ ofL 0 1 ++ ofL i 11 ++ ofL (if r = true then 1 else 0) 1 ++ ofL 0 2 ++ ofL n 4
def foreL (i n : Int) (r : Bool) (lb : List Int) : List Int := headL i n r ++ bitsB lb
def coreL (i n : Int) (r : Bool) (lb : List Int) : List Int := foreL i n r lb ++ ofL ((remN 15 17817 0 (foreL i n r lb) : Nat) : Int) 15
theorem head_bits (i n : Int) (r : Bool) : ∀ x ∈ headL i n r, x = 0 ∨ x = 1 := by
  intro x hx
  simp only [headL, List.mem_append, List.not_mem_nil, false_or] at hx
  rcases hx with (((h | h) | h) | h) | h <;> exact ofL_bits _ _ x h
theorem fore_bits (i n : Int) (r : Bool) (lb : List Int) : ∀ x ∈ foreL i n r lb, x = 0 ∨ x = 1 := by
  intro x hx
  simp only [foreL, List.mem_append] at hx
  rcases hx with h | h
  · exact head_bits _ _ _ x h
  · exact bitsB_bits _ x h
theorem core_bits (i n : Int) (r : Bool) (lb : List Int) : ∀ x ∈ coreL i n r lb, x = 0 ∨ x = 1 := by
  intro x hx
  simp only [coreL, List.mem_append] at hx
  rcases hx with h | h
  · exact fore_bits _ _ _ _ x h
  · exact ofL_bits _ _ x h
theorem bits_range {l : List Int} (h : ∀ x ∈ l, x = 0 ∨ x = 1) : ∀ x ∈ l, 0 ≤ x ∧ x ≤ 255 := fun x hx => by have := h x hx; omega
theorem head_len (i n : Int) (r : Bool) : (headL i n r).length = 19 := by simp [headL, ofL_len]
theorem fore_len (i n : Int) (r : Bool) (lb : List Int) : (foreL i n r lb).length = 19 + 8 * lb.length := by simp [foreL, head_len, bitsB_len]
theorem core_len (i n : Int) (r : Bool) (lb : List Int) : (coreL i n r lb).length = 34 + 8 * lb.length := by simp [coreL, fore_len, ofL_len]; omega
theorem crc_le (l : List Int) : ((remN 15 17817 0 l : Nat) : Int) ≤ 4294967295 := by
  have := rem_lt (W := 15) (L := 17817) (by omega) 0 l
  omega
end Go.Proofs.Ytkgnhmddnfmhjaa
