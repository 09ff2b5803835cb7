/- pair: a pair that is sent, with bits turned in one of its frames. -/
import Derived.Test.YtbefejieinfdlaaJf
import Derived.Deep.CutBlock
import Derived.StillTailTactics
import Derived.Deep.RegionHeld
namespace Go.Proofs.Ytbefejieinfdlaa
open Go.RowKit
set_option linter.unusedSimpArgs false
set_option linter.unusedVariables false

/-- A row of bytes in a block of its own. -/
def UR (w : World) (g : Nat) (L : List Int) : Prop := w.heap[g]? = some (.cells (L.map (Value.int .u8)).toArray 5 (0, 0))
section
variable {w w' : World} {g q : Nat} {L : List Int}
theorem UR.lt (h : UR w g L) : g < w.heap.size := (Array.getElem?_eq_some_iff.1 h).1
theorem UR.below (h : UR w g L) (hb : Below w.heap.size w w') : UR w' g L := (hb.block g h.lt).trans h
theorem UR.cell (h : UR w g L) {j : Nat} (hj : j < L.length) : w.cell? ⟨g, j, none⟩ = some (.int .u8 (L.getD j 0)) := by
  rw [cell_of_row _ _ _ _ _ _ h]
  simp [List.getD, hj]
theorem UR.frozen (h : UR w g L) (j : Nat) : w.frozen? ⟨g, j, none⟩ = false := frozen_of_row _ _ _ _ _ h
theorem UR.set (h : UR w g L) (j : Nat) (v : Int) : UR (w.setCell ⟨g, j, none⟩ (.int .u8 v)) g (L.set j v) := by
  have := heap_setCell_same w g j _ _ (.int .u8 v) h
  unfold UR
  rw [this]
  simp [List.map_set]
theorem UR.other (h : UR w g L) (j : Nat) (v : Value) (hn : ¬ g = q) : UR (w.setCell ⟨q, j, none⟩ v) g L := (Below.heap_setCell w ⟨q, j, none⟩ v g hn).trans h
theorem UR.byt (h : UR w g L) (hr : ∀ x ∈ L, 0 ≤ x ∧ x ≤ 255) (hm : L.length ≤ 100) : Byt w w.heap.size (some ⟨g, 0, none⟩) L.length L.length L :=
  ⟨rfl, Nat.le_refl _, by simp only [maxLen]; omega, hr, fun _ => ⟨g, 0, rfl, h.lt, fun j hj => by rw [Nat.zero_add]; exact h.cell hj⟩⟩
end
theorem wpList_dump2 {wr : World} {ops : Array Oper} {rest : List Oper} {o : Oper} {a : Act} {Q : Exit → Act → World → Prop} {g gb k : Nat} {id n : Int} {r : Bool} {d : Nat → Int} (hgd : o.guard = none) (s t : Operand)
    (ho : o.op = .call { callee := .builtin .copy, args := #[s, t], argTypes := #[22, 22] }) (hs : a.eval s = .slice (some ⟨gb, 0, none⟩) k k) (ht : a.eval t = .slice (some ⟨g, 3, none⟩) 8 8) (hk : k ≤ 8)
    (cur : Array Value) (hrow : wr.heap[gb]? = some (.cells cur 5 (0, 0))) (hcur : cur.size = k) (h : FrAt wr g id r n d) (hd : ∀ j, j < 8 → 0 ≤ d j ∧ d j ≤ 255)
    (hK : wpList Try.prog ops Q rest (a.put o.dst (goInt (k : Int))) (wr.setRow gb ((bL k d).map (Value.int .u8)).toArray)) :
    wpList Try.prog ops Q (o :: rest) a wr := by
  have hl : ((bL k d).map (Value.int .u8)).length = k := by simp [bL_len]
  refine wpList_copy_own hgd s t _ _ ho 5 Try.underlying22 info_byte gb 0 k k ⟨g, 3, none⟩ 8 8 hs ht cur 5 hrow ((bL k d).map (Value.int .u8)) (by rw [hl]; exact (Nat.min_eq_right hk).symm) ?_ (by rw [hl]; omega) (fun v hv => by simp only [List.mem_map] at hv; obtain ⟨x, _, rfl⟩ := hv; rfl) ?_
  · intro j v hv
    have hj : j < k := by rw [← hl]; exact (List.getElem?_eq_some_iff.1 hv).1
    have : (⟨g, 3, none⟩ : Addr).add j = ⟨g, 3 + j, none⟩ := by simp [Addr.add]
    rw [this, h.byte (i := j) (by omega), ← hv]
    simp [bL, hj]
  · have e : (cur.toList.take 0 ++ ((bL k d).map (Value.int .u8) ++ cur.toList.drop (0 + ((bL k d).map (Value.int .u8)).length))).toArray = ((bL k d).map (Value.int .u8)).toArray := by
      rw [hl, Nat.zero_add, List.drop_eq_nil_of_le (by simp [hcur])]; simp
    rw [e, hl]
    exact hK
theorem bytes2_ok (id : Int) (k : Nat) (d : Nat → Int) (w : World) (hc : chk id false k d = 0) (hd : ∀ j, j < 8 → 0 ≤ d j ∧ d j ≤ 255) :
    Calls Try.prog 33 #[.agg #[.int .i64 id, .bool false, .int .i64 (k : Int), .int .u8 (d 0), .int .u8 (d 1), .int .u8 (d 2), .int .u8 (d 3), .int .u8 (d 4), .int .u8 (d 5), .int .u8 (d 6), .int .u8 (d 7)]] w fun e w' => ∃ g, w.heap.size ≤ g ∧ e = .returned (.slice (some ⟨g, 0, none⟩) k k) ∧ UR w' g (bL k d) ∧ Below w.heap.size w w' := by
  have hk := (chk_len hc).2
  have hk8 : k ≤ 8 := by omega
  have hf := frame_new w id k false d
  have hb : Below w.heap.size w (w.alloc (.cells #[.int .i64 id, .bool false, .int .i64 (k : Int), .int .u8 (d 0), .int .u8 (d 1), .int .u8 (d 2), .int .u8 (d 3), .int .u8 (d 4), .int .u8 (d 5), .int .u8 (d 6), .int .u8 (d 7)] 30)) := (Below.refl _ _).alloc (Nat.le_refl _) _
  have hs : w.heap.size < (w.alloc (.cells #[.int .i64 id, .bool false, .int .i64 (k : Int), .int .u8 (d 0), .int .u8 (d 1), .int .u8 (d 2), .int .u8 (d 3), .int .u8 (d 4), .int .u8 (d 5), .int .u8 (d 6), .int .u8 (d 7)] 30)).heap.size := by simp
  have HB := Lib.hid hb
  have HF := Lib.hid hf
  have HS := Lib.hid hs
  have hca := fun w => check_any id k false d w
  simp only [hc] at hca
  have hmk := make_row k (by omega)
  have HCA := Lib.hid hca
  clear hb hf hs hca hc
  go_enter Try.func33, Try.ntmps33
  go_wp2_with (first
    | (go_at_call 36; refine (HCA.out _).mono ?_; rintro e w1 ⟨rfl, hb1⟩; have hf1 := FrAt.below HF.out hb1 HS.out; have hbw := HB.out.trans (hb1.mono HB.out.size); obtain ⟨c0, c1, c2, c3, c4, c5, c6, c7, c8, c9, c10⟩ := hf1.cells; clear c0 c1 c3 c4 c5 c6 c7 c8 c9 c10; have HF1 := Lib.hid hf1; clear hf1 hb1)
    | (refine wpList_dump2 rfl (.tmp 14) (.tmp 16) rfl rfl rfl hk8 _ (heap_alloc_new w1 _) (by simp [madeCells]) (FrAt.below HF1.out ((Below.refl _ _).alloc (Nat.le_refl _) _) HF1.out.lt) hd ?_))
  all_goals exact bodyPost_ret (results_tmp rfl _ _ _) rfl ⟨w1.heap.size, hbw.size, rfl, setRow_heap _ _ _ _ _ _ (heap_alloc_new w1 _), below_setRow (hbw.alloc hbw.size _) hbw.size _⟩
/-- Bytes of which the first i are turned. -/
def xL (L : List Int) (T : Nat → Int) (i : Nat) : List Int := (List.range L.length).map fun j => if j < i then bits .xor .u8 (L.getD j 0) (T j) else L.getD j 0
theorem xL_len (L : List Int) (T : Nat → Int) (i : Nat) : (xL L T i).length = L.length := by simp [xL]
theorem xL_get (L : List Int) (T : Nat → Int) (i : Nat) {j : Nat} (hj : j < L.length) : (xL L T i).getD j 0 = if j < i then bits .xor .u8 (L.getD j 0) (T j) else L.getD j 0 := by
  simp [xL, List.getD, hj]
theorem list_getD_ext {a b : List Int} (hl : a.length = b.length) (h : ∀ j, j < a.length → a.getD j 0 = b.getD j 0) : a = b := by
  refine List.ext_getElem hl fun i h1 h2 => ?_
  have := h i h1
  rw [List.getD_eq_getElem?_getD, List.getElem?_eq_getElem h1, List.getD_eq_getElem?_getD, List.getElem?_eq_getElem h2] at this
  simpa using this
theorem xL_zero (L : List Int) (T : Nat → Int) : xL L T 0 = L := list_getD_ext (xL_len _ _ _) fun j hj => by rw [xL_get _ _ _ (by rw [xL_len] at hj; exact hj), if_neg (by omega)]
theorem xL_set (L : List Int) (T : Nat → Int) {i : Nat} (hi : i < L.length) : (xL L T i).set i (bits .xor .u8 (L.getD i 0) (T i)) = xL L T (i + 1) := by
  refine list_getD_ext (by rw [List.length_set, xL_len, xL_len]) fun j hj => ?_
  rw [List.length_set, xL_len] at hj
  rw [xL_get _ _ _ hj]
  by_cases e : j = i
  · subst e
    rw [if_pos (by omega)]
    simp [List.getD, xL_len, hj]
  · have h2 : ((xL L T i).set i (bits .xor .u8 (L.getD i 0) (T i))).getD j 0 = (xL L T i).getD j 0 := by
      rw [List.getD_eq_getElem?_getD, List.getElem?_set_ne (fun h => e h.symm), List.getD_eq_getElem?_getD]
    rw [h2, xL_get _ _ _ hj]
    by_cases h : j < i
    · rw [if_pos h, if_pos (by omega)]
    · rw [if_neg h, if_neg (by omega)]
theorem xor_rng {a t : Int} (ha : 0 ≤ a ∧ a ≤ 255) (ht : 0 ≤ t ∧ t ≤ 255) : 0 ≤ bits .xor .u8 a t ∧ bits .xor .u8 a t ≤ 255 := by
  obtain ⟨n, rfl⟩ := Int.eq_ofNat_of_zero_le ha.1
  obtain ⟨m, rfl⟩ := Int.eq_ofNat_of_zero_le ht.1
  rw [u8_xor_nat _ _ (by omega) (by omega)]
  have hk : n ^^^ m < 2 ^ 8 := Nat.xor_lt_two_pow (by omega) (by omega)
  omega
theorem xor_same {a t : Int} (ha : 0 ≤ a ∧ a ≤ 255) (ht : 0 ≤ t ∧ t ≤ 255) : bits .xor .u8 a t = a ↔ t = 0 := by
  obtain ⟨n, rfl⟩ := Int.eq_ofNat_of_zero_le ha.1
  obtain ⟨m, rfl⟩ := Int.eq_ofNat_of_zero_le ht.1
  rw [u8_xor_nat _ _ (by omega) (by omega)]
  constructor
  · intro h
    have h1 : n ^^^ m = n := by omega
    have h2 : n ^^^ (n ^^^ m) = m := by rw [← Nat.xor_assoc, Nat.xor_self, Nat.zero_xor]
    rw [h1, Nat.xor_self] at h2
    omega
  · intro h
    have : m = 0 := by omega
    subst this
    simp
theorem xL_rng {L : List Int} {T : Nat → Int} (hL : ∀ x ∈ L, 0 ≤ x ∧ x ≤ 255) (hT : ∀ j, j < 8 → 0 ≤ T j ∧ T j ≤ 255) (h8 : L.length ≤ 8) (i : Nat) : ∀ x ∈ xL L T i, 0 ≤ x ∧ x ≤ 255 := by
  intro x hx
  simp only [xL, List.mem_map, List.mem_range] at hx
  obtain ⟨j, hj, rfl⟩ := hx
  split
  · exact xor_rng (getD_rng hL j) (hT j (by omega))
  · exact getD_rng hL j
/-- No bit is turned in the first n bytes. -/
def zB (T : Nat → Int) : Nat → Bool | 0 => true | n + 1 => zB T n && (T n == 0)
theorem zB_iff (T : Nat → Int) : ∀ n, zB T n = true ↔ ∀ j, j < n → T j = 0
  | 0 => ⟨fun _ j h => absurd h (by omega), fun _ => rfl⟩
  | n + 1 => by
    have ih := zB_iff T n
    simp only [zB, Bool.and_eq_true, beq_iff_eq]
    constructor
    · rintro ⟨h1, h2⟩ j hj
      by_cases e : j = n
      · rw [e]; exact h2
      · exact ih.1 h1 j (by omega)
    · intro h
      exact ⟨ih.2 fun j hj => h j (by omega), h n (by omega)⟩
theorem xL_same {L : List Int} {T : Nat → Int} (hL : ∀ x ∈ L, 0 ≤ x ∧ x ≤ 255) (hT : ∀ j, j < 8 → 0 ≤ T j ∧ T j ≤ 255) (h8 : L.length ≤ 8) : xL L T L.length = L ↔ zB T L.length = true := by
  rw [zB_iff]
  constructor
  · intro h j hj
    have h1 := xL_get L T L.length hj
    rw [h, if_pos hj] at h1
    exact (xor_same (getD_rng hL j) (hT j (by omega))).1 h1.symm
  · intro h
    refine list_getD_ext (xL_len _ _ _) fun j hj => ?_
    rw [xL_len] at hj
    rw [xL_get _ _ _ hj, if_pos hj]
    exact (xor_same (getD_rng hL j) (hT j (by omega))).2 (h j hj)
theorem flip_inj {a b : List Int} (h : flipL a = flipL b) : a = b := by
  have hl : a.length = b.length := by rw [← flipL_len a, h, flipL_len]
  refine list_getD_ext hl fun j hj => ?_
  have h1 : (flipL a).getD j 0 = 255 - a.getD j 0 := by unfold flipL; exact getD_map hj
  have h2 : (flipL b).getD j 0 = 255 - b.getD j 0 := by unfold flipL; exact getD_map (by omega)
  rw [h] at h1
  omega
theorem lk_second {L : List Int} {T : Nat → Int} (hL : ∀ x ∈ L, 0 ≤ x ∧ x ≤ 255) (hT : ∀ j, j < 8 → 0 ≤ T j ∧ T j ≤ 255) (h8 : L.length ≤ 8) : lkB L (xL (flipL L) T L.length) = zB T L.length := by
  have h := xL_same (flipL_range hL) hT (by rw [flipL_len]; exact h8)
  rw [flipL_len] at h
  unfold lkB
  cases hz : zB T L.length with
  | true => exact decide_eq_true (h.2 hz)
  | false => exact decide_eq_false fun e => by rw [h.1 e] at hz; cases hz
theorem lk_first {L : List Int} {T : Nat → Int} (hL : ∀ x ∈ L, 0 ≤ x ∧ x ≤ 255) (hT : ∀ j, j < 8 → 0 ≤ T j ∧ T j ≤ 255) (h8 : L.length ≤ 8) : lkB (xL L T L.length) (flipL L) = zB T L.length := by
  have h := xL_same hL hT h8
  unfold lkB
  cases hz : zB T L.length with
  | true => exact decide_eq_true (by rw [h.2 hz])
  | false => exact decide_eq_false fun e => by rw [h.1 (flip_inj e).symm] at hz; cases hz
theorem chk_good {id : Int} {l : List Int} (h0 : 0 ≤ id) (h1 : id ≤ 2047) (hl : l.length ≤ 8) : chk id false l.length (dOf l) = 0 := by
  unfold chk
  rw [if_neg (by omega), if_neg (by omega), if_pos]
  have hc : ∀ j : Nat, dOf l j = cut (dOf l) (kOf false (l.length : Int)) j := fun j => by
    unfold cut kOf dOf
    simp only [Bool.false_eq_true, if_false]
    by_cases hj : (j : Int) < (l.length : Int)
    · rw [if_pos hj]
    · rw [if_neg hj]
      simp [List.getD, List.getElem?_eq_none (show l.length ≤ j by omega)]
  unfold eqD
  exact decide_eq_true ⟨hc 0, hc 1, hc 2, hc 3, hc 4, hc 5, hc 6, hc 7⟩
theorem bL_dOf (l : List Int) : bL l.length (dOf l) = l := list_getD_ext (bL_len _ _) fun j hj => by rw [bL_len] at hj; rw [bL_get _ _ _ hj]; rfl
/-- An array of eight bytes in a block. -/
def A8 (w : World) (g : Nat) (T : Nat → Int) : Prop := w.heap[g]? = some (.cells #[.int .u8 (T 0), .int .u8 (T 1), .int .u8 (T 2), .int .u8 (T 3), .int .u8 (T 4), .int .u8 (T 5), .int .u8 (T 6), .int .u8 (T 7)] 28 (0, 0))
theorem A8.lt {w : World} {g : Nat} {T : Nat → Int} (h : A8 w g T) : g < w.heap.size := (Array.getElem?_eq_some_iff.1 h).1
theorem A8.below {w w' : World} {g : Nat} {T : Nat → Int} (h : A8 w g T) (hb : Below w.heap.size w w') : A8 w' g T := (hb.block g h.lt).trans h
theorem A8.cell {w : World} {g : Nat} {T : Nat → Int} (h : A8 w g T) {j : Nat} (hj : j < 8) : w.cell? ⟨g, j, none⟩ = some (.int .u8 (T j)) := by
  rw [cell_of_row _ _ _ _ _ _ h]
  match j, hj with
  | 0, _ => rfl
  | 1, _ => rfl
  | 2, _ => rfl
  | 3, _ => rfl
  | 4, _ => rfl
  | 5, _ => rfl
  | 6, _ => rfl
  | 7, _ => rfl
theorem A8.byt {w : World} {g : Nat} {T : Nat → Int} (h : A8 w g T) (hT : ∀ j, j < 8 → 0 ≤ T j ∧ T j ≤ 255) {n : Nat} (hn : n ≤ 8) : Byt w w.heap.size (some ⟨g, 0, none⟩) n 8 (bL n T) :=
  ⟨bL_len n T, hn, by simp [maxLen], bL_range n T hn hT, fun _ => ⟨g, 0, rfl, h.lt, fun j hj => by rw [Nat.zero_add, h.cell (by omega), bL_get n T j hj]⟩⟩
/-- What stands in memory while a pair's bits are turned. -/
structure SnS (w : World) (gt gx gy : Nat) (T : Nat → Int) (X Y : List Int) (wr : World) : Prop where
  t : A8 wr gt T
  x : UR wr gx X
  y : UR wr gy Y
  bel : Below w.heap.size w wr
  hx : w.heap.size ≤ gx
  hy : w.heap.size ≤ gy
  ne : ¬ gx = gy
  tx : ¬ gt = gx
  ty : ¬ gt = gy
section
variable {w wr w' : World} {gt gx gy : Nat} {T : Nat → Int} {X Y : List Int}
theorem SnS.below (h : SnS w gt gx gy T X Y wr) (hb : Below wr.heap.size wr w') : SnS w gt gx gy T X Y w' := ⟨h.t.below hb, h.x.below hb, h.y.below hb, kF hb h.bel, h.hx, h.hy, h.ne, h.tx, h.ty⟩
theorem SnS.setx (h : SnS w gt gx gy T X Y wr) (j : Nat) (v : Int) : SnS w gt gx gy T (X.set j v) Y (wr.setCell ⟨gx, j, none⟩ (.int .u8 v)) :=
  ⟨(Below.heap_setCell wr ⟨gx, j, none⟩ _ gt h.tx).trans h.t, h.x.set j v, h.y.other j _ (fun e => h.ne e.symm), h.bel.setCell (p := ⟨gx, j, none⟩) h.hx _, h.hx, h.hy, h.ne, h.tx, h.ty⟩
theorem SnS.sety (h : SnS w gt gx gy T X Y wr) (j : Nat) (v : Int) : SnS w gt gx gy T X (Y.set j v) (wr.setCell ⟨gy, j, none⟩ (.int .u8 v)) :=
  ⟨(Below.heap_setCell wr ⟨gy, j, none⟩ _ gt h.ty).trans h.t, h.x.other j _ h.ne, h.y.set j v, h.bel.setCell (p := ⟨gy, j, none⟩) h.hy _, h.hx, h.hy, h.ne, h.tx, h.ty⟩
end
theorem tw_all {x : World} {q n : Nat} {d1 d2 : Nat → Int} (h : TwAt x q 257 258 n d1 d2) : x.cell? ⟨q, 0, none⟩ = some (.int .i64 257) ∧ x.cell? ⟨q, 1, none⟩ = some (.bool false) ∧ x.cell? ⟨q, 2, none⟩ = some (.int .i64 (n : Int)) ∧ x.cell? ⟨q, 3, none⟩ = some (.int .u8 (d1 0)) ∧ x.cell? ⟨q, 4, none⟩ = some (.int .u8 (d1 1)) ∧ x.cell? ⟨q, 5, none⟩ = some (.int .u8 (d1 2)) ∧ x.cell? ⟨q, 6, none⟩ = some (.int .u8 (d1 3)) ∧ x.cell? ⟨q, 7, none⟩ = some (.int .u8 (d1 4)) ∧ x.cell? ⟨q, 8, none⟩ = some (.int .u8 (d1 5)) ∧ x.cell? ⟨q, 9, none⟩ = some (.int .u8 (d1 6)) ∧ x.cell? ⟨q, 10, none⟩ = some (.int .u8 (d1 7)) ∧ x.cell? ⟨q, 11, none⟩ = some (.int .i64 258) ∧ x.cell? ⟨q, 12, none⟩ = some (.bool false) ∧ x.cell? ⟨q, 13, none⟩ = some (.int .i64 (n : Int)) ∧ x.cell? ⟨q, 14, none⟩ = some (.int .u8 (d2 0)) ∧ x.cell? ⟨q, 15, none⟩ = some (.int .u8 (d2 1)) ∧ x.cell? ⟨q, 16, none⟩ = some (.int .u8 (d2 2)) ∧ x.cell? ⟨q, 17, none⟩ = some (.int .u8 (d2 3)) ∧ x.cell? ⟨q, 18, none⟩ = some (.int .u8 (d2 4)) ∧ x.cell? ⟨q, 19, none⟩ = some (.int .u8 (d2 5)) ∧ x.cell? ⟨q, 20, none⟩ = some (.int .u8 (d2 6)) ∧ x.cell? ⟨q, 21, none⟩ = some (.int .u8 (d2 7)) := by
  have a := h.cells1
  have b := h.cells2
  exact ⟨a.1, a.2.1, a.2.2.1, a.2.2.2.1, a.2.2.2.2.1, a.2.2.2.2.2.1, a.2.2.2.2.2.2.1, a.2.2.2.2.2.2.2.1, a.2.2.2.2.2.2.2.2.1, a.2.2.2.2.2.2.2.2.2.1, a.2.2.2.2.2.2.2.2.2.2, b⟩
set_option maxRecDepth 100000 in
set_option maxHeartbeats 8000000 in
theorem send_second (g c : Nat) (A : Option Addr) (l v : List Int) (T : Nat → Int) (w : World) (h : CkT w g l.length none v) (hB : Byt w w.heap.size A l.length c l) (hT : ∀ j, j < 8 → 0 ≤ T j ∧ T j ≤ 255) :
    Calls Try.prog 24 #[.pointer (some ⟨g, 0, none⟩), .slice A l.length c, .agg #[.int .u8 (T 0), .int .u8 (T 1), .int .u8 (T 2), .int .u8 (T 3), .int .u8 (T 4), .int .u8 (T 5), .int .u8 (T 6), .int .u8 (T 7)], .bool true] w fun e w' => e = .returned (.int .i64 (if zB T l.length then 2 else 5)) ∧ CkT w' g l.length none (if zB T l.length then l else v) ∧ Onl g w w' := by
  have h1 := h.sz
  have HT := Lib.hid hT
  have HL := Lib.hid hB.rng
  have HC := Lib.hid h
  have hba : Below w.heap.size w (w.alloc (.cells #[.int .u8 (T 0), .int .u8 (T 1), .int .u8 (T 2), .int .u8 (T 3), .int .u8 (T 4), .int .u8 (T 5), .int .u8 (T 6), .int .u8 (T 7)] 28)) := (Below.refl _ _).alloc (Nat.le_refl _) _
  have HA := Lib.hid (show A8 (w.alloc (.cells #[.int .u8 (T 0), .int .u8 (T 1), .int .u8 (T 2), .int .u8 (T 3), .int .u8 (T 4), .int .u8 (T 5), .int .u8 (T 6), .int .u8 (T 7)] 28)) w.heap.size T from heap_alloc_new w _)
  have HBA := Lib.hid hba
  have HY := Lib.hid (hB.step hba)
  have HM := Lib.hid (make_ok 257 258 A l.length c l _ HY.out h1 (chk_good (by omega) (by omega) h1.2) (by have := chk_good (id := 258) (l := flipL l) (by omega) (by omega) (by rw [flipL_len]; exact h1.2); rw [flipL_len] at this; exact this))
  have HB1 := Lib.hid (fun (x : World) => by have := bytes2_ok 257 l.length (dOf l) x (chk_good (by omega) (by omega) h1.2) (fun j _ => getD_rng HL.out j); rw [bL_dOf] at this; exact this)
  have HB2 := Lib.hid (fun (x : World) => by have := bytes2_ok 258 l.length (dOf (flipL l)) x (by have := chk_good (id := 258) (l := flipL l) (by omega) (by omega) (by rw [flipL_len]; exact h1.2); rw [flipL_len] at this; exact this) (fun j _ => getD_rng (flipL_range HL.out) j); rw [show bL l.length (dOf (flipL l)) = flipL l by have := bL_dOf (flipL l); rw [flipL_len] at this; exact this] at this; exact this)
  obtain ⟨n, hn⟩ : ∃ n, l.length = n := ⟨_, rfl⟩
  have HN := Lib.hid hn
  rw [hn] at HM HB1 HB2 h1
  obtain ⟨h1a, h1b⟩ := h1
  obtain ⟨d1, hd1⟩ : ∃ d, dOf l = d := ⟨_, rfl⟩
  obtain ⟨d2, hd2⟩ : ∃ d, dOf (flipL l) = d := ⟨_, rfl⟩
  rw [hd1] at HM HB1
  rw [hd2] at HM HB2
  rw [hn]
  obtain ⟨R, hR⟩ : ∃ r, (if zB T n then (2 : Int) else 5) = r := ⟨_, rfl⟩
  obtain ⟨V, hV2⟩ : ∃ r, (if zB T n then l else v) = r := ⟨_, rfl⟩
  rw [hR, hV2]
  have HR := Lib.hid hR
  have HV := Lib.hid hV2
  clear h hB hT hba hn hd1 hd2 hR hV2
  go_enter Try.func24, Try.ntmps24
  go_upto_region 4 with (go_at_call 8; refine (HM.out).mono ?_; rintro e w1 ⟨q, hq, rfl, x1, b1⟩; have HX1 := Lib.hid x1; have HA1 := Lib.hid (HA.out.below b1); have HB11 := Lib.hid (kF b1 HBA.out); clear x1 b1 hq)
  clear HM HY HA HBA
  generalize w.heap.size = gt at HA1 ⊢
  have HX2 := Lib.hid (HX1.out.below (kD w1))
  have HA2 := Lib.hid (HA1.out.below (kD w1))
  have HB21 := Lib.hid (kF (kD w1) HB11.out)
  have HCC := Lib.hid (fun (x : World) (hx : TwAt x q 257 258 n d1 d2) => tw_all hx)
  have y0 := HCC.out _ HX2.out
  clear HX1 HA1 HB11
  go_wp2_with fail
  go_region_held3 (fun x => x.cell? ⟨q, 0, none⟩ = some (.int .i64 257) ∧ x.cell? ⟨q, 1, none⟩ = some (.bool false) ∧ x.cell? ⟨q, 2, none⟩ = some (.int .i64 (n : Int)) ∧ x.cell? ⟨q, 3, none⟩ = some (.int .u8 (d1 0)) ∧ x.cell? ⟨q, 4, none⟩ = some (.int .u8 (d1 1)) ∧ x.cell? ⟨q, 5, none⟩ = some (.int .u8 (d1 2)) ∧ x.cell? ⟨q, 6, none⟩ = some (.int .u8 (d1 3)) ∧ x.cell? ⟨q, 7, none⟩ = some (.int .u8 (d1 4)) ∧ x.cell? ⟨q, 8, none⟩ = some (.int .u8 (d1 5)) ∧ x.cell? ⟨q, 9, none⟩ = some (.int .u8 (d1 6)) ∧ x.cell? ⟨q, 10, none⟩ = some (.int .u8 (d1 7)) ∧ x.cell? ⟨q, 11, none⟩ = some (.int .i64 258) ∧ x.cell? ⟨q, 12, none⟩ = some (.bool false) ∧ x.cell? ⟨q, 13, none⟩ = some (.int .i64 (n : Int)) ∧ x.cell? ⟨q, 14, none⟩ = some (.int .u8 (d2 0)) ∧ x.cell? ⟨q, 15, none⟩ = some (.int .u8 (d2 1)) ∧ x.cell? ⟨q, 16, none⟩ = some (.int .u8 (d2 2)) ∧ x.cell? ⟨q, 17, none⟩ = some (.int .u8 (d2 3)) ∧ x.cell? ⟨q, 18, none⟩ = some (.int .u8 (d2 4)) ∧ x.cell? ⟨q, 19, none⟩ = some (.int .u8 (d2 5)) ∧ x.cell? ⟨q, 20, none⟩ = some (.int .u8 (d2 6)) ∧ x.cell? ⟨q, 21, none⟩ = some (.int .u8 (d2 7))) (first | exact y0 | exact y1 | exact y2)
    (first
      | (go_at_call 33; (with_reducible refine (HB1.out _).mono ?_); rintro e w3 ⟨gx, hgx, rfl, x3, b3⟩; have HX3 := Lib.hid (HX2.out.below b3); have HA3 := Lib.hid (HA2.out.below b3); have HU3 := Lib.hid x3; have HG3 := Lib.hid hgx; have HB3 := Lib.hid (kF b3 HB21.out); have HQ3 := Lib.hid (show ¬ gt = gx from fun e => by have := HA2.out.lt; omega); have y1 := HCC.out _ HX3.out; clear x3 b3 hgx)
      | (go_at_call 33; (with_reducible refine (HB2.out _).mono ?_); rintro e w4 ⟨gy, hgy, rfl, x4, b4⟩; have HX4 := Lib.hid (HX3.out.below b4); have HA4 := Lib.hid (HA3.out.below b4); have HU4 := Lib.hid (HU3.out.below b4); have HV4 := Lib.hid x4; have HB4 := Lib.hid (kF b4 HB3.out); have HQ4 := Lib.hid (show ¬ gt = gy ∧ ¬ gx = gy ∧ w.heap.size ≤ gx ∧ w.heap.size ≤ gy from ⟨fun e => by have := HA3.out.lt; omega, fun e => by have := HU3.out.lt; omega, by have := HB21.out.size; have := HG3.out; omega, by have := HB3.out.size; omega⟩); have y2 := HCC.out _ HX4.out; clear x4 b4 hgy))
  have HS := Lib.hid (show SnS w gt gx gy T l (flipL l) w4 from ⟨HA4.out, HU4.out, HV4.out, HB4.out, HQ4.out.2.2.1, HQ4.out.2.2.2, HQ4.out.2.1, HQ3.out, HQ4.out.1⟩)
  clear y0 y1 y2 HX2 HX3 HX4 HA2 HA3 HA4 HU3 HU4 HV4 HB21 HB3 HB4 HQ3 HQ4 HG3 HCC HB1 HB2
  go_wp2_with fail
  go_loopw [13] (fun k wr => ∃ i : Nat, i ≤ n ∧ k = .int .i64 i ∧ Hid (SnS w gt gx gy T (l) (xL (flipL l) T i) wr)) (fun k _ => 20 - (intOf k).toNat)
  case atStart => exact ⟨0, by omega, rfl, by rw [xL_zero]; exact HS⟩
  case round =>
    clear HS
    obtain ⟨i, hi, rfl, HS⟩ := hrel
    by_cases hlt : i < n
    · have hln := HN.out
      have dt : wr.cell? ⟨gt, i, none⟩ = some (.int .u8 (T i)) := HS.out.t.cell (by omega)
      obtain ⟨a, ha⟩ : ∃ a, (flipL l).getD i 0 = a := ⟨_, rfl⟩
      have dy : wr.cell? ⟨gy, i, none⟩ = some (.int .u8 a) := by
        rw [HS.out.y.cell (by rw [xL_len, flipL_len]; omega), xL_get _ _ _ (by rw [flipL_len]; omega), if_neg (by omega), ha]
      have fy : wr.frozen? ⟨gy, i, none⟩ = false := HS.out.y.frozen i
      have HE := Lib.hid (show (xL (flipL l) T i).set i (bits .xor .u8 a (T i)) = xL (flipL l) T (i + 1) by rw [← ha]; exact xL_set _ _ (by rw [flipL_len]; omega))
      have hin : (i : Int) < (n : Int) := by omega
      have hi8 : (i : Int) < 8 := by omega
      generalize T i = t at dt HE
      have dt2 : wr.drew.cell? ⟨gt, i, none⟩ = some (.int .u8 t) := dt
      have dy2 : wr.drew.cell? ⟨gy, i, none⟩ = some (.int .u8 a) := dy
      have fy2 : wr.drew.frozen? ⟨gy, i, none⟩ = false := fy
      have HS2 := Lib.hid ((HS.out.below (kD _)).sety i (bits .xor .u8 a t))
      rw [HE.out] at HS2
      clear ha HE hln
      go_wp2_with fail
      go_still_tail 10, (by kernel_rfl)
      change wpList _ _ _ _ _ wr.drew
      go_wp2_with fail
      exact ⟨⟨i + 1, by omega, by go_num, HS2⟩, by simp [intOf]; omega⟩
    · obtain rfl : i = n := by omega
      have hln := HN.out
      have h8 : l.length ≤ 8 := by omega
      have HCW := Lib.hid (HC.out.below HS.out.bel)
      have HXB := Lib.hid (show Byt wr wr.heap.size (some ⟨gx, 0, none⟩) i i (l) by have := HS.out.x.byt (HL.out) (by omega); rw [hln] at this; exact this)
      have HYB := Lib.hid (show Byt wr wr.heap.size (some ⟨gy, 0, none⟩) i i (xL (flipL l) T l.length) by have := HS.out.y.byt (xL_rng (flipL_range HL.out) HT.out (by rw [flipL_len]; exact h8) i) (by rw [xL_len, flipL_len]; omega); rw [xL_len, flipL_len, hln] at this; rw [hln]; exact this)
      have HPL := Lib.hid (plainT HCW.out HXB.out (by omega))
      rw [show plE l.length none (l) = 1 from (if_neg (by simp)).trans (if_neg (by simp)), show plP l.length none (l) = some (l) from if_pos ((if_neg (by simp)).trans (if_neg (by simp)))] at HPL
      have hlk := lk_second HL.out HT.out h8
      have hE : tuE l.length (some (l)) (xL (flipL l) T l.length) = if zB T l.length then 2 else 5 := by rw [← hlk]; exact if_neg (by simp [xL_len, flipL_len])
      have hV : tuV l.length (some (l)) (xL (flipL l) T l.length) v = if zB T l.length then l else v := by
        unfold tuV
        rw [hE]
        cases hz : zB T l.length with
        | true => rfl
        | false => rfl
      rw [hln] at hE hV
      have HTU := Lib.hid (fun (x : World) (hx : CkT x g l.length (some (l)) v) (hb : Byt x x.heap.size (some ⟨gy, 0, none⟩) i i (xL (flipL l) T l.length)) => turnedT hx hb (by omega))
      rw [hln] at HPL HTU HC HCW
      try rw [hln] at HYB
      simp only [hE, hV] at HTU
      have HGL := Lib.hid (Nat.le_of_lt HC.out.lt)
      rw [HR.out, HV.out] at HTU
      clear hE hV hlk h8 hln HXB
      go_wp2_with (first
        | (go_at_call 16; refine (HPL.out).mono ?_; rintro e w5 ⟨rfl, x5, o5⟩; have HC5 := Lib.hid x5; have HY5 := Lib.hid (HCW.out.byt HYB.out o5); have HO5 := Lib.hid ((Onl.of HS.out.bel HGL.out).trans o5); clear x5 o5)
        | (go_at_call 17; refine (HTU.out _ HC5.out HY5.out).mono ?_; rintro e w6 ⟨rfl, x6, o6⟩; have HC6 := Lib.hid x6; have HO6 := Lib.hid (HO5.out.trans o6); clear x6 o6))
      go_ret
      exact ⟨rfl, HC6.out, HO6.out⟩
set_option maxRecDepth 100000 in
set_option maxHeartbeats 8000000 in
theorem send_first (g c : Nat) (A : Option Addr) (l v : List Int) (T : Nat → Int) (w : World) (h : CkT w g l.length none v) (hB : Byt w w.heap.size A l.length c l) (hT : ∀ j, j < 8 → 0 ≤ T j ∧ T j ≤ 255) :
    Calls Try.prog 24 #[.pointer (some ⟨g, 0, none⟩), .slice A l.length c, .agg #[.int .u8 (T 0), .int .u8 (T 1), .int .u8 (T 2), .int .u8 (T 3), .int .u8 (T 4), .int .u8 (T 5), .int .u8 (T 6), .int .u8 (T 7)], .bool false] w fun e w' => e = .returned (.int .i64 (if zB T l.length then 2 else 5)) ∧ CkT w' g l.length none (if zB T l.length then l else v) ∧ Onl g w w' := by
  have h1 := h.sz
  have HT := Lib.hid hT
  have HL := Lib.hid hB.rng
  have HC := Lib.hid h
  have hba : Below w.heap.size w (w.alloc (.cells #[.int .u8 (T 0), .int .u8 (T 1), .int .u8 (T 2), .int .u8 (T 3), .int .u8 (T 4), .int .u8 (T 5), .int .u8 (T 6), .int .u8 (T 7)] 28)) := (Below.refl _ _).alloc (Nat.le_refl _) _
  have HA := Lib.hid (show A8 (w.alloc (.cells #[.int .u8 (T 0), .int .u8 (T 1), .int .u8 (T 2), .int .u8 (T 3), .int .u8 (T 4), .int .u8 (T 5), .int .u8 (T 6), .int .u8 (T 7)] 28)) w.heap.size T from heap_alloc_new w _)
  have HBA := Lib.hid hba
  have HY := Lib.hid (hB.step hba)
  have HM := Lib.hid (make_ok 257 258 A l.length c l _ HY.out h1 (chk_good (by omega) (by omega) h1.2) (by have := chk_good (id := 258) (l := flipL l) (by omega) (by omega) (by rw [flipL_len]; exact h1.2); rw [flipL_len] at this; exact this))
  have HB1 := Lib.hid (fun (x : World) => by have := bytes2_ok 257 l.length (dOf l) x (chk_good (by omega) (by omega) h1.2) (fun j _ => getD_rng HL.out j); rw [bL_dOf] at this; exact this)
  have HB2 := Lib.hid (fun (x : World) => by have := bytes2_ok 258 l.length (dOf (flipL l)) x (by have := chk_good (id := 258) (l := flipL l) (by omega) (by omega) (by rw [flipL_len]; exact h1.2); rw [flipL_len] at this; exact this) (fun j _ => getD_rng (flipL_range HL.out) j); rw [show bL l.length (dOf (flipL l)) = flipL l by have := bL_dOf (flipL l); rw [flipL_len] at this; exact this] at this; exact this)
  obtain ⟨n, hn⟩ : ∃ n, l.length = n := ⟨_, rfl⟩
  have HN := Lib.hid hn
  rw [hn] at HM HB1 HB2 h1
  obtain ⟨h1a, h1b⟩ := h1
  obtain ⟨d1, hd1⟩ : ∃ d, dOf l = d := ⟨_, rfl⟩
  obtain ⟨d2, hd2⟩ : ∃ d, dOf (flipL l) = d := ⟨_, rfl⟩
  rw [hd1] at HM HB1
  rw [hd2] at HM HB2
  rw [hn]
  obtain ⟨R, hR⟩ : ∃ r, (if zB T n then (2 : Int) else 5) = r := ⟨_, rfl⟩
  obtain ⟨V, hV2⟩ : ∃ r, (if zB T n then l else v) = r := ⟨_, rfl⟩
  rw [hR, hV2]
  have HR := Lib.hid hR
  have HV := Lib.hid hV2
  clear h hB hT hba hn hd1 hd2 hR hV2
  go_enter Try.func24, Try.ntmps24
  go_upto_region 4 with (go_at_call 8; refine (HM.out).mono ?_; rintro e w1 ⟨q, hq, rfl, x1, b1⟩; have HX1 := Lib.hid x1; have HA1 := Lib.hid (HA.out.below b1); have HB11 := Lib.hid (kF b1 HBA.out); clear x1 b1 hq)
  clear HM HY HA HBA
  generalize w.heap.size = gt at HA1 ⊢
  have HX2 := Lib.hid (HX1.out.below (kD w1))
  have HA2 := Lib.hid (HA1.out.below (kD w1))
  have HB21 := Lib.hid (kF (kD w1) HB11.out)
  have HCC := Lib.hid (fun (x : World) (hx : TwAt x q 257 258 n d1 d2) => tw_all hx)
  have y0 := HCC.out _ HX2.out
  clear HX1 HA1 HB11
  go_wp2_with fail
  go_region_held3 (fun x => x.cell? ⟨q, 0, none⟩ = some (.int .i64 257) ∧ x.cell? ⟨q, 1, none⟩ = some (.bool false) ∧ x.cell? ⟨q, 2, none⟩ = some (.int .i64 (n : Int)) ∧ x.cell? ⟨q, 3, none⟩ = some (.int .u8 (d1 0)) ∧ x.cell? ⟨q, 4, none⟩ = some (.int .u8 (d1 1)) ∧ x.cell? ⟨q, 5, none⟩ = some (.int .u8 (d1 2)) ∧ x.cell? ⟨q, 6, none⟩ = some (.int .u8 (d1 3)) ∧ x.cell? ⟨q, 7, none⟩ = some (.int .u8 (d1 4)) ∧ x.cell? ⟨q, 8, none⟩ = some (.int .u8 (d1 5)) ∧ x.cell? ⟨q, 9, none⟩ = some (.int .u8 (d1 6)) ∧ x.cell? ⟨q, 10, none⟩ = some (.int .u8 (d1 7)) ∧ x.cell? ⟨q, 11, none⟩ = some (.int .i64 258) ∧ x.cell? ⟨q, 12, none⟩ = some (.bool false) ∧ x.cell? ⟨q, 13, none⟩ = some (.int .i64 (n : Int)) ∧ x.cell? ⟨q, 14, none⟩ = some (.int .u8 (d2 0)) ∧ x.cell? ⟨q, 15, none⟩ = some (.int .u8 (d2 1)) ∧ x.cell? ⟨q, 16, none⟩ = some (.int .u8 (d2 2)) ∧ x.cell? ⟨q, 17, none⟩ = some (.int .u8 (d2 3)) ∧ x.cell? ⟨q, 18, none⟩ = some (.int .u8 (d2 4)) ∧ x.cell? ⟨q, 19, none⟩ = some (.int .u8 (d2 5)) ∧ x.cell? ⟨q, 20, none⟩ = some (.int .u8 (d2 6)) ∧ x.cell? ⟨q, 21, none⟩ = some (.int .u8 (d2 7))) (first | exact y0 | exact y1 | exact y2)
    (first
      | (go_at_call 33; (with_reducible refine (HB1.out _).mono ?_); rintro e w3 ⟨gx, hgx, rfl, x3, b3⟩; have HX3 := Lib.hid (HX2.out.below b3); have HA3 := Lib.hid (HA2.out.below b3); have HU3 := Lib.hid x3; have HG3 := Lib.hid hgx; have HB3 := Lib.hid (kF b3 HB21.out); have HQ3 := Lib.hid (show ¬ gt = gx from fun e => by have := HA2.out.lt; omega); have y1 := HCC.out _ HX3.out; clear x3 b3 hgx)
      | (go_at_call 33; (with_reducible refine (HB2.out _).mono ?_); rintro e w4 ⟨gy, hgy, rfl, x4, b4⟩; have HX4 := Lib.hid (HX3.out.below b4); have HA4 := Lib.hid (HA3.out.below b4); have HU4 := Lib.hid (HU3.out.below b4); have HV4 := Lib.hid x4; have HB4 := Lib.hid (kF b4 HB3.out); have HQ4 := Lib.hid (show ¬ gt = gy ∧ ¬ gx = gy ∧ w.heap.size ≤ gx ∧ w.heap.size ≤ gy from ⟨fun e => by have := HA3.out.lt; omega, fun e => by have := HU3.out.lt; omega, by have := HB21.out.size; have := HG3.out; omega, by have := HB3.out.size; omega⟩); have y2 := HCC.out _ HX4.out; clear x4 b4 hgy))
  have HS := Lib.hid (show SnS w gt gx gy T l (flipL l) w4 from ⟨HA4.out, HU4.out, HV4.out, HB4.out, HQ4.out.2.2.1, HQ4.out.2.2.2, HQ4.out.2.1, HQ3.out, HQ4.out.1⟩)
  clear y0 y1 y2 HX2 HX3 HX4 HA2 HA3 HA4 HU3 HU4 HV4 HB21 HB3 HB4 HQ3 HQ4 HG3 HCC HB1 HB2
  go_wp2_with fail
  go_loopw [13] (fun k wr => ∃ i : Nat, i ≤ n ∧ k = .int .i64 i ∧ Hid (SnS w gt gx gy T (xL l T i) (flipL l) wr)) (fun k _ => 20 - (intOf k).toNat)
  case atStart => exact ⟨0, by omega, rfl, by rw [xL_zero]; exact HS⟩
  case round =>
    clear HS
    obtain ⟨i, hi, rfl, HS⟩ := hrel
    by_cases hlt : i < n
    · have hln := HN.out
      have dt : wr.cell? ⟨gt, i, none⟩ = some (.int .u8 (T i)) := HS.out.t.cell (by omega)
      obtain ⟨a, ha⟩ : ∃ a, l.getD i 0 = a := ⟨_, rfl⟩
      have dy : wr.cell? ⟨gx, i, none⟩ = some (.int .u8 a) := by
        rw [HS.out.x.cell (by rw [xL_len]; omega), xL_get _ _ _ (by omega), if_neg (by omega), ha]
      have fy : wr.frozen? ⟨gx, i, none⟩ = false := HS.out.x.frozen i
      have HE := Lib.hid (show (xL l T i).set i (bits .xor .u8 a (T i)) = xL l T (i + 1) by rw [← ha]; exact xL_set _ _ (by omega))
      have hin : (i : Int) < (n : Int) := by omega
      have hi8 : (i : Int) < 8 := by omega
      generalize T i = t at dt HE
      have dt2 : wr.drew.cell? ⟨gt, i, none⟩ = some (.int .u8 t) := dt
      have dy2 : wr.drew.cell? ⟨gx, i, none⟩ = some (.int .u8 a) := dy
      have fy2 : wr.drew.frozen? ⟨gx, i, none⟩ = false := fy
      have HS2 := Lib.hid ((HS.out.below (kD _)).setx i (bits .xor .u8 a t))
      rw [HE.out] at HS2
      clear ha HE hln
      go_wp2_with fail
      go_still_tail 10, (by kernel_rfl)
      change wpList _ _ _ _ _ wr.drew
      go_wp2_with fail
      exact ⟨⟨i + 1, by omega, by go_num, HS2⟩, by simp [intOf]; omega⟩
    · obtain rfl : i = n := by omega
      have hln := HN.out
      have h8 : l.length ≤ 8 := by omega
      have HCW := Lib.hid (HC.out.below HS.out.bel)
      have HXB := Lib.hid (show Byt wr wr.heap.size (some ⟨gx, 0, none⟩) i i (xL l T l.length) by have := HS.out.x.byt (xL_rng HL.out HT.out h8 i) (by rw [xL_len]; omega); rw [xL_len, hln] at this; rw [hln]; exact this)
      have HYB := Lib.hid (show Byt wr wr.heap.size (some ⟨gy, 0, none⟩) i i (flipL l) by have := HS.out.y.byt (flipL_range HL.out) (by rw [flipL_len]; omega); rw [flipL_len, hln] at this; exact this)
      have HPL := Lib.hid (plainT HCW.out HXB.out (by omega))
      rw [show plE l.length none (xL l T l.length) = 1 from (if_neg (by simp [xL_len])).trans (if_neg (by simp)), show plP l.length none (xL l T l.length) = some (xL l T l.length) from if_pos ((if_neg (by simp [xL_len])).trans (if_neg (by simp)))] at HPL
      have hlk := lk_first HL.out HT.out h8
      have hE : tuE l.length (some (xL l T l.length)) (flipL l) = if zB T l.length then 2 else 5 := by rw [← hlk]; exact if_neg (by simp [flipL_len])
      have hV : tuV l.length (some (xL l T l.length)) (flipL l) v = if zB T l.length then l else v := by
        unfold tuV
        rw [hE]
        cases hz : zB T l.length with
        | true => exact (xL_same HL.out HT.out h8).2 hz
        | false => rfl
      rw [hln] at hE hV
      have HTU := Lib.hid (fun (x : World) (hx : CkT x g l.length (some (xL l T l.length)) v) (hb : Byt x x.heap.size (some ⟨gy, 0, none⟩) i i (flipL l)) => turnedT hx hb (by omega))
      rw [hln] at HPL HTU HC HCW
      try rw [hln] at HYB
      simp only [hE, hV] at HTU
      have HGL := Lib.hid (Nat.le_of_lt HC.out.lt)
      rw [HR.out, HV.out] at HTU
      clear hE hV hlk h8 hln HXB
      go_wp2_with (first
        | (go_at_call 16; refine (HPL.out).mono ?_; rintro e w5 ⟨rfl, x5, o5⟩; have HC5 := Lib.hid x5; have HY5 := Lib.hid (HCW.out.byt HYB.out o5); have HO5 := Lib.hid ((Onl.of HS.out.bel HGL.out).trans o5); clear x5 o5)
        | (go_at_call 17; refine (HTU.out _ HC5.out HY5.out).mono ?_; rintro e w6 ⟨rfl, x6, o6⟩; have HC6 := Lib.hid x6; have HO6 := Lib.hid (HO5.out.trans o6); clear x6 o6))
      go_ret
      exact ⟨rfl, HC6.out, HO6.out⟩
end Go.Proofs.Ytbefejieinfdlaa
