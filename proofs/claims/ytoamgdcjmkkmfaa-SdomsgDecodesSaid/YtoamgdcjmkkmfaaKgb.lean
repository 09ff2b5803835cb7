/- The document's numbers of bytes. -/
import Derived.Deep.CutBlock
import Derived.Test.YtoamgdcjmkkmfaaKmd
import Derived.Test.YtoamgdcjmkkmfaaKo
import Derived.Test.YtoamgdcjmkkmfaaKz
set_option linter.unusedSimpArgs false
set_option linter.unusedVariables false
namespace Go.Proofs.Ytoamgdcjmkkmfaa
open Go.RowKit
set_option maxHeartbeats 4000000
def getR : Nat → List Int → Nat → Int
  | 0, _, _ => 0
  | q + 1, L, a => 256 * getR q L (a + 1) + L.getD a 0
theorem getR_rng {L : List Int} (hb : Byte8 L) : ∀ (q a : Nat), 0 ≤ getR q L a ∧ getR q L a < 256 ^ q
  | 0, _ => by simp [getR]
  | q + 1, a => by
    obtain ⟨h1, h2⟩ := getR_rng hb q (a + 1)
    have h3 := hb a
    unfold getR
    rw [Int.pow_succ]
    omega
set_option maxRecDepth 100000 in
theorem rget17_any (w : World) (L : List Int) (a q : Nat) (hb : Byte8 L) (h : a + q ≤ 8) (hq : q ≤ 4) :
    Calls Try.prog 24 #[.agg (lnA L), .int .i64 a, .int .i64 q] w fun e w' => e = .returned (.int .i64 (getR q L a)) ∧ Below w.heap.size w w' := by
  have hl0 : LnAt (w.alloc (.cells (lnA L) 23)) w.heap.size L := heap_alloc_new w _
  have hb0 : Below w.heap.size w (w.alloc (.cells (lnA L) 23)) := (Below.refl _ _).alloc (Nat.le_refl _) _
  have HL0 := Lib.hid hl0
  have HB0 := Lib.hid hb0
  have HBB := Lib.hid hb
  have HH := Lib.hid h
  have ha8 : a ≤ 8 := by omega
  clear hl0 hb0 hb h
  go_enter Try.func24, Try.ntmps24
  generalize hL : lnA L = LA at *
  go_wp2_with fail
  generalize w.alloc (.cells LA 23) = w0 at *
  clear hL
  go_loopw [7, 8] (fun t7 t8 wr => ∃ j : Nat, j ≤ q ∧ t7 = .int .i64 (getR (q - j) L (a + j)) ∧ t8 = .int .i64 ((j : Int) - 1) ∧ Hid (LnAt wr w.heap.size L) ∧ Hid (Below w.heap.size w wr)) (fun _ t => fun _ => ((intOf t) + 1).toNat)
  case atStart => exact ⟨q, by omega, by rw [Nat.sub_self]; rfl, rfl, HL0, HB0⟩
  case round =>
    clear HL0 HB0
    obtain ⟨j, hj, rfl, rfl, HL, HB⟩ := hrel
    by_cases h0 : j = 0
    · subst h0
      have e0 : getR (q - 0) L (a + 0) = getR q L a := rfl
      rw [e0]
      go_wp2_with fail
      go_ret
      exact ⟨rfl, HB.out⟩
    · obtain ⟨k, rfl⟩ : ∃ k, j = k + 1 := ⟨j - 1, by omega⟩
      have hr := getR_rng HBB.out (q - (k + 1)) (a + (k + 1))
      have hp : (256 : Int) ^ (q - (k + 1)) ≤ 256 ^ 3 := by
        have : q - (k + 1) = 0 ∨ q - (k + 1) = 1 ∨ q - (k + 1) = 2 ∨ q - (k + 1) = 3 := by omega
        rcases this with e | e | e | e <;> (rw [e]; decide)
      have hx := HBB.out (a + k)
      have c0 := HL.out.cell (a + k) (by have := HH.out; omega)
      have hak : a + k < 8 := by have := HH.out; omega
      have HS : Hid (getR (q - k) L (a + k) = 256 * getR (q - (k + 1)) L (a + (k + 1)) + L.getD (a + k) 0) := Lib.hid (by rw [show q - k = (q - (k + 1)) + 1 by omega]; rfl)
      generalize getR (q - (k + 1)) L (a + (k + 1)) = v at *
      generalize L.getD (a + k) 0 = x at *
      have hv0 : 0 ≤ v := hr.1
      have hv1 : v < 16777216 := by have := hr.2; omega
      have hkk : ((k + 1 : Nat) : Int) - 1 = (k : Int) := by omega
      rw [hkk]
      clear hr hp
      go_wp2_with fail
      exact ⟨⟨k, by omega, by rw [HS.out], by go_num, HL, HB⟩, by simp [intOf]⟩
end Go.Proofs.Ytoamgdcjmkkmfaa
namespace Go.Proofs.Ytoamgdcjmkkmfaa
open Go.RowKit
set_option maxHeartbeats 4000000
structure GU (w : World) (b : List Int) (RX m : Array Value) (x : World) : Prop where
  hl : LnAt x w.heap.size b
  hr : x.heap[w.heap.size + 1]? = some (.cells RX 41 (0, 0))
  hz : x.heap[w.heap.size + 2]? = some (.cells #[.int .i64 0, .int .i64 0, .int .i64 0, .bool false, .bool false, .bool false, .bool false, .int .i64 0, .int .i64 0, .int .u8 0, .int .u8 0, .int .u8 0, .int .u8 0, .int .u8 0, .int .u8 0, .int .u8 0, .int .i64 0, .int .i64 0, .int .i64 0, .int .i64 0, .int .i64 0] 30 (0, 0))
  hm : x.heap[w.heap.size + 3]? = some (.cells m 30 (0, 0))
  hs : w.heap.size + 4 ≤ x.heap.size
  hb : Below w.heap.size w x
theorem gu_start {w x : World} {LV RX : Array Value} {b : List Int} (hx : (((w.alloc (.cells LV 23)).alloc (.cells RX 41)).alloc (.cells #[.int .i64 0, .int .i64 0, .int .i64 0, .bool false, .bool false, .bool false, .bool false, .int .i64 0, .int .i64 0, .int .u8 0, .int .u8 0, .int .u8 0, .int .u8 0, .int .u8 0, .int .u8 0, .int .u8 0, .int .i64 0, .int .i64 0, .int .i64 0, .int .i64 0, .int .i64 0] 30)).alloc (.cells #[.int .i64 0, .int .i64 0, .int .i64 0, .bool false, .bool false, .bool false, .bool false, .int .i64 0, .int .i64 0, .int .u8 0, .int .u8 0, .int .u8 0, .int .u8 0, .int .u8 0, .int .u8 0, .int .u8 0, .int .i64 0, .int .i64 0, .int .i64 0, .int .i64 0, .int .i64 0] 30) = x) (hL : LV = lnA b) : GU w b RX #[.int .i64 0, .int .i64 0, .int .i64 0, .bool false, .bool false, .bool false, .bool false, .int .i64 0, .int .i64 0, .int .u8 0, .int .u8 0, .int .u8 0, .int .u8 0, .int .u8 0, .int .u8 0, .int .u8 0, .int .i64 0, .int .i64 0, .int .i64 0, .int .i64 0, .int .i64 0] x := by
  subst hx hL
  refine ⟨?_, ?_, ?_, ?_, by simp, ((((Below.refl _ _).alloc (Nat.le_refl _) _).alloc (by simp) _).alloc (by simp; omega) _).alloc (by simp; omega) _⟩
  · exact LnAt.alloc (LnAt.alloc (LnAt.alloc (heap_alloc_new w _) _) _) _
  · have h1 := heap_alloc_new (w.alloc (.cells (lnA b) 23)) (.cells RX 41)
    have h2 := (heap_alloc_old (((w.alloc (.cells (lnA b) 23)).alloc (.cells RX 41)).alloc (.cells #[.int .i64 0, .int .i64 0, .int .i64 0, .bool false, .bool false, .bool false, .bool false, .int .i64 0, .int .i64 0, .int .u8 0, .int .u8 0, .int .u8 0, .int .u8 0, .int .u8 0, .int .u8 0, .int .u8 0, .int .i64 0, .int .i64 0, .int .i64 0, .int .i64 0, .int .i64 0] 30)) (.cells #[.int .i64 0, .int .i64 0, .int .i64 0, .bool false, .bool false, .bool false, .bool false, .int .i64 0, .int .i64 0, .int .u8 0, .int .u8 0, .int .u8 0, .int .u8 0, .int .u8 0, .int .u8 0, .int .u8 0, .int .i64 0, .int .i64 0, .int .i64 0, .int .i64 0, .int .i64 0] 30) (r := w.heap.size + 1) (by simp)).trans (heap_alloc_old ((w.alloc (.cells (lnA b) 23)).alloc (.cells RX 41)) (.cells #[.int .i64 0, .int .i64 0, .int .i64 0, .bool false, .bool false, .bool false, .bool false, .int .i64 0, .int .i64 0, .int .u8 0, .int .u8 0, .int .u8 0, .int .u8 0, .int .u8 0, .int .u8 0, .int .u8 0, .int .i64 0, .int .i64 0, .int .i64 0, .int .i64 0, .int .i64 0] 30) (r := w.heap.size + 1) (by simp))
    rw [h2]; simpa using h1
  · have h1 := heap_alloc_new ((w.alloc (.cells (lnA b) 23)).alloc (.cells RX 41)) (.cells #[.int .i64 0, .int .i64 0, .int .i64 0, .bool false, .bool false, .bool false, .bool false, .int .i64 0, .int .i64 0, .int .u8 0, .int .u8 0, .int .u8 0, .int .u8 0, .int .u8 0, .int .u8 0, .int .u8 0, .int .i64 0, .int .i64 0, .int .i64 0, .int .i64 0, .int .i64 0] 30)
    have h2 := heap_alloc_old (((w.alloc (.cells (lnA b) 23)).alloc (.cells RX 41)).alloc (.cells #[.int .i64 0, .int .i64 0, .int .i64 0, .bool false, .bool false, .bool false, .bool false, .int .i64 0, .int .i64 0, .int .u8 0, .int .u8 0, .int .u8 0, .int .u8 0, .int .u8 0, .int .u8 0, .int .u8 0, .int .i64 0, .int .i64 0, .int .i64 0, .int .i64 0, .int .i64 0] 30)) (.cells #[.int .i64 0, .int .i64 0, .int .i64 0, .bool false, .bool false, .bool false, .bool false, .int .i64 0, .int .i64 0, .int .u8 0, .int .u8 0, .int .u8 0, .int .u8 0, .int .u8 0, .int .u8 0, .int .u8 0, .int .i64 0, .int .i64 0, .int .i64 0, .int .i64 0, .int .i64 0] 30) (r := w.heap.size + 2) (by simp)
    rw [h2]; simpa using h1
  · have h1 := heap_alloc_new (((w.alloc (.cells (lnA b) 23)).alloc (.cells RX 41)).alloc (.cells #[.int .i64 0, .int .i64 0, .int .i64 0, .bool false, .bool false, .bool false, .bool false, .int .i64 0, .int .i64 0, .int .u8 0, .int .u8 0, .int .u8 0, .int .u8 0, .int .u8 0, .int .u8 0, .int .u8 0, .int .i64 0, .int .i64 0, .int .i64 0, .int .i64 0, .int .i64 0] 30)) (.cells #[.int .i64 0, .int .i64 0, .int .i64 0, .bool false, .bool false, .bool false, .bool false, .int .i64 0, .int .i64 0, .int .u8 0, .int .u8 0, .int .u8 0, .int .u8 0, .int .u8 0, .int .u8 0, .int .u8 0, .int .i64 0, .int .i64 0, .int .i64 0, .int .i64 0, .int .i64 0] 30)
    simpa using h1
section
variable {w x y : World} {b : List Int} {RX m m' : Array Value}
theorem GU.told (h : GU w b RX m x) (m' : Array Value) : GU w b RX m' (x.setRow (w.heap.size + 3) m') :=
  ⟨(setRow_other _ _ _ _ (by omega)).trans h.hl, (setRow_other _ _ _ _ (by omega)).trans h.hr, (setRow_other _ _ _ _ (by omega)).trans h.hz, setRow_heap _ _ _ _ _ _ h.hm, by rw [size_setRow]; exact h.hs, below_setRow h.hb (by omega) _⟩
theorem GU.set (h : GU w b RX m x) (k : Nat) (v : Value) : GU w b RX (m.setIfInBounds k v) (x.setCell ⟨w.heap.size + 3, k, none⟩ v) :=
  ⟨(set_other _ (by omega)).trans h.hl, (set_other _ (by omega)).trans h.hr, (set_other _ (by omega)).trans h.hz, blk_set h.hm, by simpa using h.hs, h.hb.setCell (p := ⟨w.heap.size + 3, k, none⟩) (by show w.heap.size ≤ w.heap.size + 3; omega) v⟩
theorem GU.below (h : GU w b RX m x) (hy : Below x.heap.size x y) : GU w b RX m y :=
  have h1 := h.hs
  ⟨(hy.block _ (by omega)).trans h.hl, (hy.block _ (by omega)).trans h.hr, (hy.block _ (by omega)).trans h.hz, (hy.block _ (by omega)).trans h.hm, Nat.le_trans h1 hy.size, h.hb.trans (hy.mono h.hb.size)⟩
theorem GU.cong (h : GU w b RX m x) (e : m = m') : GU w b RX m' x := e ▸ h
theorem GU.msg (h : GU w b RX m x) (k : Nat) : x.cell? ⟨w.heap.size + 3, k, none⟩ = m[k]? := by rw [cell_of_row _ _ _ _ _ _ h.hm]
theorem GU.frz (h : GU w b RX m x) (k : Nat) : x.frozen? ⟨w.heap.size + 3, k, none⟩ = false := frozen_of_row _ _ _ _ _ h.hm
theorem GU.rc (h : GU w b RX m x) (k : Nat) : x.cell? ⟨w.heap.size + 1, k, none⟩ = RX[k]? := by rw [cell_of_row _ _ _ _ _ _ h.hr]
end
theorem gu_rows {w x : World} {b : List Int} {RX m : Array Value} {q : Int} {t1 t2 t3 t4 t5 t6 t7 t8 t9 t0 : Bool} (hR : Hid (#[.int .i64 q, .bool t1, .bool t2, .bool t3, .bool t4, .bool t5, .bool t6, .bool t7, .bool t8, .bool t9, .bool t0] = RX)) (h : GU w b RX m x) :
    x.cell? ⟨w.heap.size + 1, 1, none⟩ = some (.bool t1) ∧ x.cell? ⟨w.heap.size + 1, 2, none⟩ = some (.bool t2) ∧ x.cell? ⟨w.heap.size + 1, 3, none⟩ = some (.bool t3) ∧ x.cell? ⟨w.heap.size + 1, 4, none⟩ = some (.bool t4) ∧ x.cell? ⟨w.heap.size + 1, 5, none⟩ = some (.bool t5) ∧ x.cell? ⟨w.heap.size + 1, 6, none⟩ = some (.bool t6) ∧ x.cell? ⟨w.heap.size + 1, 7, none⟩ = some (.bool t7) ∧ x.cell? ⟨w.heap.size + 1, 8, none⟩ = some (.bool t8) ∧ x.cell? ⟨w.heap.size + 1, 9, none⟩ = some (.bool t9) ∧ x.cell? ⟨w.heap.size + 1, 10, none⟩ = some (.bool t0) := by
  rw [← hR.out] at h
  exact ⟨h.rc 1, h.rc 2, h.rc 3, h.rc 4, h.rc 5, h.rc 6, h.rc 7, h.rc 8, h.rc 9, h.rc 10⟩
def putM7 : Nat → List Int → Nat → Array Value → Array Value
  | 0, _, _, m => m
  | p + 1, b, a, m => (putM7 p b a m).setIfInBounds (9 + p) (.int .u8 (b.getD (a + p) 0))
theorem putM7_at (b : List Int) (a : Nat) (m : Array Value) (k : Nat) (hk : k < 9 ∨ 16 ≤ k) : ∀ p, p ≤ 7 → (putM7 p b a m)[k]? = m[k]?
  | 0, _ => rfl
  | p + 1, hp => by
    show ((putM7 p b a m).setIfInBounds (9 + p) _)[k]? = _
    rw [Array.getElem?_setIfInBounds_ne (by omega)]
    exact putM7_at b a m k hk p (by omega)
theorem putM7_new (b : List Int) (a : Nat) (m : Array Value) (k : Nat) : ∀ p, p ≤ k → (putM7 p b a m)[9 + k]? = m[9 + k]?
  | 0, _ => rfl
  | p + 1, hp => by
    show ((putM7 p b a m).setIfInBounds (9 + p) _)[9 + k]? = _
    rw [Array.getElem?_setIfInBounds_ne (by omega)]
    exact putM7_new b a m k p (by omega)
theorem putM7_size (b : List Int) (a : Nat) (m : Array Value) : ∀ p, (putM7 p b a m).size = m.size
  | 0 => rfl
  | p + 1 => by
    show ((putM7 p b a m).setIfInBounds (9 + p) _).size = m.size
    rw [Array.size_setIfInBounds]; exact putM7_size b a m p
theorem set_one {m : Array Value} (h : m.all (·.oneCell') = true) (k : Nat) {v : Value} (hv : v.oneCell' = true) : (m.setIfInBounds k v).all (·.oneCell') = true := by
  rw [← Array.all_toList] at h ⊢
  rw [Array.toList_setIfInBounds, List.all_eq_true]
  rw [List.all_eq_true] at h
  intro x hx
  rcases List.mem_or_eq_of_mem_set hx with h1 | rfl
  · exact h x h1
  · exact hv
theorem putM7_one (b : List Int) (a : Nat) {m : Array Value} (h : m.all (·.oneCell') = true) : ∀ p, (putM7 p b a m).all (·.oneCell') = true
  | 0 => h
  | p + 1 => set_one (putM7_one b a h p) _ rfl
end Go.Proofs.Ytoamgdcjmkkmfaa
