/- What the document's Encode answers. -/
import Derived.Deep.CutBlock
import Derived.Test.YtoamgdcjmkkmfaaKmd
import Derived.Test.YtoamgdcjmkkmfaaKmc
import Derived.Test.YtoamgdcjmkkmfaaKma
import Derived.Test.YtoamgdcjmkkmfaaKmc2
import Derived.Test.YtoamgdcjmkkmfaaKmc4
import Derived.Test.YtoamgdcjmkkmfaaKmc6
namespace Go.Proofs.Ytoamgdcjmkkmfaa
open Go.RowKit
set_option linter.unusedSimpArgs false
set_option linter.unusedVariables false
set_option maxHeartbeats 4000000
structure ES (w : World) (gr : Nat) (MA RX : Array Value) (L : List Int) (x : World) : Prop where
  hm : x.heap[w.heap.size]? = some (.cells MA 30 (0, 0))
  hz : LnAt x (w.heap.size + 1) []
  hl : LnAt x (w.heap.size + 2) L
  hr : x.heap[gr]? = some (.cells RX 41 (0, 0))
  hg : w.heap.size + 3 ≤ gr ∧ gr < x.heap.size
  hb : Below w.heap.size w x
section
variable {w x y : World} {gr : Nat} {MA RX : Array Value} {L L' : List Int}
theorem ES.below (h : ES w gr MA RX L x) (hb : Below x.heap.size x y) : ES w gr MA RX L y :=
  have h1 := h.hg
  ⟨(hb.block _ (by omega)).trans h.hm, (hb.block _ (by omega)).trans h.hz, (hb.block _ (by omega)).trans h.hl, (hb.block _ h1.2).trans h.hr, ⟨h1.1, Nat.lt_of_lt_of_le h1.2 hb.size⟩, h.hb.trans (hb.mono h.hb.size)⟩
theorem ES.row (h : ES w gr MA RX L x) (L' : List Int) : ES w gr MA RX L' (x.setRow (w.heap.size + 2) (lnA L')) :=
  have h1 := h.hg
  ⟨(setRow_other _ _ _ _ (by omega)).trans h.hm, (setRow_other _ _ _ _ (by omega)).trans h.hz, h.hl.set L', (setRow_other _ _ _ _ (by omega)).trans h.hr, ⟨h1.1, by rw [size_setRow]; exact h1.2⟩, below_setRow h.hb (by omega) _⟩
theorem ES.one (h : ES w gr MA RX L x) (i : Nat) (v : Int) (hi : i < 8) : ES w gr MA RX (setL L i v) (x.setCell ⟨w.heap.size + 2, i, none⟩ (.int .u8 v)) :=
  have h1 := h.hg
  ⟨(set_other _ (by omega)).trans h.hm, (set_other _ (by omega)).trans h.hz, h.hl.one i v hi, (set_other _ (by omega)).trans h.hr, ⟨h1.1, by simpa using h1.2⟩, h.hb.setCell (p := ⟨w.heap.size + 2, i, none⟩) (by show w.heap.size ≤ w.heap.size + 2; omega) _⟩
theorem ES.msg (h : ES w gr MA RX L x) (k : Nat) : x.cell? ⟨w.heap.size, k, none⟩ = MA[k]? := by rw [cell_of_row _ _ _ _ _ _ h.hm]
theorem ES.rc (h : ES w gr MA RX L x) (k : Nat) : x.cell? ⟨gr, k, none⟩ = RX[k]? := by rw [cell_of_row _ _ _ _ _ _ h.hr]
end
theorem es_cells {w x : World} {gr : Nat} {MA RX : Array Value} {L : List Int} {c ki ks : Int} {tg la fa su : Bool} {sz n d0 d1 d2 d3 d4 d5 d6 co sq bl sp cr b : Int} {t1 t2 t3 t4 t5 t6 t7 t8 t9 t0 : Bool} (hM : Hid (#[.int .i64 c, .int .i64 ki, .int .i64 ks, .bool tg, .bool la, .bool fa, .bool su, .int .i64 sz, .int .i64 n, .int .u8 d0, .int .u8 d1, .int .u8 d2, .int .u8 d3, .int .u8 d4, .int .u8 d5, .int .u8 d6, .int .i64 co, .int .i64 sq, .int .i64 bl, .int .i64 sp, .int .i64 cr] = MA)) (hR : Hid (#[.int .i64 b, .bool t1, .bool t2, .bool t3, .bool t4, .bool t5, .bool t6, .bool t7, .bool t8, .bool t9, .bool t0] = RX)) (h : ES w gr MA RX L x) :
    (x.cell? ⟨w.heap.size, 0, none⟩ = some (.int .i64 c) ∧ x.cell? ⟨w.heap.size, 1, none⟩ = some (.int .i64 ki) ∧ x.cell? ⟨w.heap.size, 2, none⟩ = some (.int .i64 ks) ∧ x.cell? ⟨w.heap.size, 8, none⟩ = some (.int .i64 n) ∧ x.cell? ⟨w.heap.size, 7, none⟩ = some (.int .i64 sz) ∧ x.cell? ⟨w.heap.size, 16, none⟩ = some (.int .i64 co) ∧ x.cell? ⟨w.heap.size, 17, none⟩ = some (.int .i64 sq) ∧ x.cell? ⟨w.heap.size, 18, none⟩ = some (.int .i64 bl) ∧ x.cell? ⟨w.heap.size, 19, none⟩ = some (.int .i64 sp) ∧ x.cell? ⟨w.heap.size, 20, none⟩ = some (.int .i64 cr)) ∧
    (x.cell? ⟨gr, 0, none⟩ = some (.int .i64 b) ∧ x.cell? ⟨gr, 1, none⟩ = some (.bool t1) ∧ x.cell? ⟨gr, 2, none⟩ = some (.bool t2) ∧ x.cell? ⟨gr, 3, none⟩ = some (.bool t3) ∧ x.cell? ⟨gr, 4, none⟩ = some (.bool t4) ∧ x.cell? ⟨gr, 5, none⟩ = some (.bool t5) ∧ x.cell? ⟨gr, 6, none⟩ = some (.bool t6) ∧ x.cell? ⟨gr, 7, none⟩ = some (.bool t7) ∧ x.cell? ⟨gr, 8, none⟩ = some (.bool t8) ∧ x.cell? ⟨gr, 9, none⟩ = some (.bool t9) ∧ x.cell? ⟨gr, 10, none⟩ = some (.bool t0)) := by
  rw [← hM.out, ← hR.out] at h
  exact ⟨⟨h.msg 0, h.msg 1, h.msg 2, h.msg 8, h.msg 7, h.msg 16, h.msg 17, h.msg 18, h.msg 19, h.msg 20⟩, ⟨h.rc 0, h.rc 1, h.rc 2, h.rc 3, h.rc 4, h.rc 5, h.rc 6, h.rc 7, h.rc 8, h.rc 9, h.rc 10⟩⟩
structure EB (w : World) (MA : Array Value) (x : World) : Prop where
  hm : x.heap[w.heap.size]? = some (.cells MA 30 (0, 0))
  hz : LnAt x (w.heap.size + 1) []
  hl : LnAt x (w.heap.size + 2) []
  hb : Below w.heap.size w x
  hs : x.heap.size = w.heap.size + 3
theorem eb_start {w x : World} {MA : Array Value} (hx : ((w.alloc (.cells MA 30)).alloc (.cells #[.int .u8 0, .int .u8 0, .int .u8 0, .int .u8 0, .int .u8 0, .int .u8 0, .int .u8 0, .int .u8 0] 23)).alloc (.cells #[.int .u8 0, .int .u8 0, .int .u8 0, .int .u8 0, .int .u8 0, .int .u8 0, .int .u8 0, .int .u8 0] 23) = x) : EB w MA x := by
  subst hx
  refine ⟨?_, ?_, ?_, ?_, by simp⟩
  · exact (heap_alloc_old _ _ (by simp; omega)).trans ((heap_alloc_old _ _ (by simp)).trans (heap_alloc_new w _))
  · have := LnAt.alloc (ln_zero (w.alloc (.cells MA 30))) (.cells #[.int .u8 0, .int .u8 0, .int .u8 0, .int .u8 0, .int .u8 0, .int .u8 0, .int .u8 0, .int .u8 0] 23); simpa using this
  · have := ln_zero ((w.alloc (.cells MA 30)).alloc (.cells #[.int .u8 0, .int .u8 0, .int .u8 0, .int .u8 0, .int .u8 0, .int .u8 0, .int .u8 0, .int .u8 0] 23)); simpa using this
  · exact (((Below.refl _ _).alloc (Nat.le_refl _) _).alloc (by simp) _).alloc (by simp; omega) _
theorem EB.row {w x w1 : World} {MA : Array Value} (h : EB w MA x) (hb1 : Below x.heap.size x w1) : ES w w1.heap.size MA #[.int .i64 0, .bool false, .bool false, .bool false, .bool false, .bool false, .bool false, .bool false, .bool false, .bool false, .bool false] [] (w1.alloc (.cells #[.int .i64 0, .bool false, .bool false, .bool false, .bool false, .bool false, .bool false, .bool false, .bool false, .bool false, .bool false] 41)) := by
  have hs := h.hs
  have hs1 : w.heap.size + 3 ≤ w1.heap.size := by have := hb1.size; omega
  exact ⟨(heap_alloc_old _ _ (by omega)).trans ((hb1.block _ (by omega)).trans h.hm), LnAt.alloc (h.hz.below hb1 (by omega)) _, LnAt.alloc (h.hl.below hb1 (by omega)) _, heap_alloc_new w1 _, ⟨hs1, by simp⟩, (h.hb.trans (hb1.mono h.hb.size)).alloc (by omega) _⟩
theorem ES.told {w x : World} {gr : Nat} {MA R0 : Array Value} {L : List Int} (h : ES w gr MA R0 L x) (RX : Array Value) : ES w gr MA RX L (x.setRow gr RX) :=
  have h1 := h.hg
  ⟨(setRow_other _ _ _ _ (by omega)).trans h.hm, (setRow_other _ _ _ _ (by omega)).trans h.hz, (setRow_other _ _ _ _ (by omega)).trans h.hl, setRow_heap _ _ _ _ _ _ h.hr, ⟨h1.1, by rw [size_setRow]; exact h1.2⟩, below_setRow h.hb (by omega) _⟩
def putD : Nat → List Int → Nat → List Int → List Int
  | 0, _, _, L => L
  | p + 1, ds, a, L => setL (putD p ds a L) (a + p) (ds.getD p 0)
end Go.Proofs.Ytoamgdcjmkkmfaa
