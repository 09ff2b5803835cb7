/- FrameRanks. -/
import Derived.Test.YtgbbpochficldaaFrameS
namespace Go.Proofs.Ytgbbpochficldaa.frameRanks
open Go.RowKit Go.Joins Go.ChangeShapes Go.WideShapes Go.Proofs.Ytgbbpochficldaa

/-- The three frames lie as they were handed in. -/
structure Fr3 (i1 n1 i2 n2 i3 n3 : Int) (r1 r2 r3 : Bool) (d1 d2 d3 : Nat → Int) (w wr : World) : Prop where
  a : FrAt wr w.heap.size i1 r1 n1 d1
  b : FrAt wr (w.heap.size + 1) i2 r2 n2 d2
  c : FrAt wr (w.heap.size + 2) i3 r3 n3 d3
  bel : Below w.heap.size w wr
  lt : w.heap.size + 2 < wr.heap.size
section
variable {i1 n1 i2 n2 i3 n3 : Int} {r1 r2 r3 : Bool} {d1 d2 d3 : Nat → Int} {w wr w' : World}
theorem Fr3.step (h : Fr3 i1 n1 i2 n2 i3 n3 r1 r2 r3 d1 d2 d3 w wr) (hb : Below wr.heap.size wr w') : Fr3 i1 n1 i2 n2 i3 n3 r1 r2 r3 d1 d2 d3 w w' :=
  ⟨h.a.below hb h.a.lt, h.b.below hb h.b.lt, h.c.below hb h.c.lt, h.bel.trans (hb.mono h.bel.size), Nat.lt_of_lt_of_le h.lt hb.size⟩
theorem Fr3.cells (h : Fr3 i1 n1 i2 n2 i3 n3 r1 r2 r3 d1 d2 d3 w wr) : (wr.cell? ⟨w.heap.size, 0, none⟩ = some (.int .i64 i1) ∧ wr.cell? ⟨w.heap.size, 1, none⟩ = some (.bool r1) ∧ wr.cell? ⟨w.heap.size, 2, none⟩ = some (.int .i64 n1) ∧ wr.cell? ⟨w.heap.size, 3, none⟩ = some (.int .u8 (d1 0)) ∧ wr.cell? ⟨w.heap.size, 4, none⟩ = some (.int .u8 (d1 1)) ∧ wr.cell? ⟨w.heap.size, 5, none⟩ = some (.int .u8 (d1 2)) ∧ wr.cell? ⟨w.heap.size, 6, none⟩ = some (.int .u8 (d1 3)) ∧ wr.cell? ⟨w.heap.size, 7, none⟩ = some (.int .u8 (d1 4)) ∧ wr.cell? ⟨w.heap.size, 8, none⟩ = some (.int .u8 (d1 5)) ∧ wr.cell? ⟨w.heap.size, 9, none⟩ = some (.int .u8 (d1 6)) ∧ wr.cell? ⟨w.heap.size, 10, none⟩ = some (.int .u8 (d1 7))) ∧ (wr.cell? ⟨w.heap.size + 1, 0, none⟩ = some (.int .i64 i2) ∧ wr.cell? ⟨w.heap.size + 1, 1, none⟩ = some (.bool r2) ∧ wr.cell? ⟨w.heap.size + 1, 2, none⟩ = some (.int .i64 n2) ∧ wr.cell? ⟨w.heap.size + 1, 3, none⟩ = some (.int .u8 (d2 0)) ∧ wr.cell? ⟨w.heap.size + 1, 4, none⟩ = some (.int .u8 (d2 1)) ∧ wr.cell? ⟨w.heap.size + 1, 5, none⟩ = some (.int .u8 (d2 2)) ∧ wr.cell? ⟨w.heap.size + 1, 6, none⟩ = some (.int .u8 (d2 3)) ∧ wr.cell? ⟨w.heap.size + 1, 7, none⟩ = some (.int .u8 (d2 4)) ∧ wr.cell? ⟨w.heap.size + 1, 8, none⟩ = some (.int .u8 (d2 5)) ∧ wr.cell? ⟨w.heap.size + 1, 9, none⟩ = some (.int .u8 (d2 6)) ∧ wr.cell? ⟨w.heap.size + 1, 10, none⟩ = some (.int .u8 (d2 7))) ∧ (wr.cell? ⟨w.heap.size + 2, 0, none⟩ = some (.int .i64 i3) ∧ wr.cell? ⟨w.heap.size + 2, 1, none⟩ = some (.bool r3) ∧ wr.cell? ⟨w.heap.size + 2, 2, none⟩ = some (.int .i64 n3) ∧ wr.cell? ⟨w.heap.size + 2, 3, none⟩ = some (.int .u8 (d3 0)) ∧ wr.cell? ⟨w.heap.size + 2, 4, none⟩ = some (.int .u8 (d3 1)) ∧ wr.cell? ⟨w.heap.size + 2, 5, none⟩ = some (.int .u8 (d3 2)) ∧ wr.cell? ⟨w.heap.size + 2, 6, none⟩ = some (.int .u8 (d3 3)) ∧ wr.cell? ⟨w.heap.size + 2, 7, none⟩ = some (.int .u8 (d3 4)) ∧ wr.cell? ⟨w.heap.size + 2, 8, none⟩ = some (.int .u8 (d3 5)) ∧ wr.cell? ⟨w.heap.size + 2, 9, none⟩ = some (.int .u8 (d3 6)) ∧ wr.cell? ⟨w.heap.size + 2, 10, none⟩ = some (.int .u8 (d3 7))) := ⟨h.a.cells, h.b.cells, h.c.cells⟩
end
set_option maxHeartbeats 4000000 in
theorem core (i1 n1 i2 n2 i3 n3 : Int) (r1 r2 r3 : Bool) (d1 d2 d3 : Nat → Int) (w : World) :
    Calls Try.prog 4 #[.agg #[.int .i64 i1, .bool r1, .int .i64 n1, .int .u8 (d1 0), .int .u8 (d1 1), .int .u8 (d1 2), .int .u8 (d1 3), .int .u8 (d1 4), .int .u8 (d1 5), .int .u8 (d1 6), .int .u8 (d1 7)], .agg #[.int .i64 i2, .bool r2, .int .i64 n2, .int .u8 (d2 0), .int .u8 (d2 1), .int .u8 (d2 2), .int .u8 (d2 3), .int .u8 (d2 4), .int .u8 (d2 5), .int .u8 (d2 6), .int .u8 (d2 7)], .agg #[.int .i64 i3, .bool r3, .int .i64 n3, .int .u8 (d3 0), .int .u8 (d3 1), .int .u8 (d3 2), .int .u8 (d3 3), .int .u8 (d3 4), .int .u8 (d3 5), .int .u8 (d3 6), .int .u8 (d3 7)]] w fun e w' => e = .returned (.bool true) ∧ Below w.heap.size w w' := by
  obtain ⟨x, hx⟩ : ∃ x, rk i1 r1 n1 d1 = x := ⟨_, rfl⟩
  obtain ⟨y, hy⟩ : ∃ y, rk i2 r2 n2 d2 = y := ⟨_, rfl⟩
  obtain ⟨z, hz⟩ : ∃ z, rk i3 r3 n3 d3 = z := ⟨_, rfl⟩
  have hf0 : Fr3 i1 n1 i2 n2 i3 n3 r1 r2 r3 d1 d2 d3 w (((w.alloc (.cells #[.int .i64 i1, .bool r1, .int .i64 n1, .int .u8 (d1 0), .int .u8 (d1 1), .int .u8 (d1 2), .int .u8 (d1 3), .int .u8 (d1 4), .int .u8 (d1 5), .int .u8 (d1 6), .int .u8 (d1 7)] 24)).alloc (.cells #[.int .i64 i2, .bool r2, .int .i64 n2, .int .u8 (d2 0), .int .u8 (d2 1), .int .u8 (d2 2), .int .u8 (d2 3), .int .u8 (d2 4), .int .u8 (d2 5), .int .u8 (d2 6), .int .u8 (d2 7)] 24)).alloc (.cells #[.int .i64 i3, .bool r3, .int .i64 n3, .int .u8 (d3 0), .int .u8 (d3 1), .int .u8 (d3 2), .int .u8 (d3 3), .int .u8 (d3 4), .int .u8 (d3 5), .int .u8 (d3 6), .int .u8 (d3 7)] 24)) := ⟨(heap_alloc_old _ _ (by simp; omega)).trans (heap_alloc2_old w _ _), (heap_alloc_old _ _ (by simp)).trans (heap_alloc2_new w _ _), by have := heap_alloc_new ((w.alloc (.cells #[.int .i64 i1, .bool r1, .int .i64 n1, .int .u8 (d1 0), .int .u8 (d1 1), .int .u8 (d1 2), .int .u8 (d1 3), .int .u8 (d1 4), .int .u8 (d1 5), .int .u8 (d1 6), .int .u8 (d1 7)] 24)).alloc (.cells #[.int .i64 i2, .bool r2, .int .i64 n2, .int .u8 (d2 0), .int .u8 (d2 1), .int .u8 (d2 2), .int .u8 (d2 3), .int .u8 (d2 4), .int .u8 (d2 5), .int .u8 (d2 6), .int .u8 (d2 7)] 24)) (.cells #[.int .i64 i3, .bool r3, .int .i64 n3, .int .u8 (d3 0), .int .u8 (d3 1), .int .u8 (d3 2), .int .u8 (d3 3), .int .u8 (d3 4), .int .u8 (d3 5), .int .u8 (d3 6), .int .u8 (d3 7)] 24); rw [show ((w.alloc (.cells #[.int .i64 i1, .bool r1, .int .i64 n1, .int .u8 (d1 0), .int .u8 (d1 1), .int .u8 (d1 2), .int .u8 (d1 3), .int .u8 (d1 4), .int .u8 (d1 5), .int .u8 (d1 6), .int .u8 (d1 7)] 24)).alloc (.cells #[.int .i64 i2, .bool r2, .int .i64 n2, .int .u8 (d2 0), .int .u8 (d2 1), .int .u8 (d2 2), .int .u8 (d2 3), .int .u8 (d2 4), .int .u8 (d2 5), .int .u8 (d2 6), .int .u8 (d2 7)] 24)).heap.size = w.heap.size + 2 by simp] at this; exact this, (((Below.refl _ _).alloc (Nat.le_refl _) _).alloc (by simp) _).alloc (by simp; omega) _, by simp⟩
  have hda : ∀ wr : World, Fr3 i1 n1 i2 n2 i3 n3 r1 r2 r3 d1 d2 d3 w wr → Calls Try.prog 15 #[.agg #[.int .i64 i1, .bool r1, .int .i64 n1, .int .u8 (d1 0), .int .u8 (d1 1), .int .u8 (d1 2), .int .u8 (d1 3), .int .u8 (d1 4), .int .u8 (d1 5), .int .u8 (d1 6), .int .u8 (d1 7)]] wr fun e w' => e = .returned (.int .i64 x) ∧ Fr3 i1 n1 i2 n2 i3 n3 r1 r2 r3 d1 d2 d3 w w' := fun wr h => by rw [← hx]; exact (drank_any i1 n1 r1 d1 wr).mono fun e w' ⟨he, hb⟩ => ⟨he, h.step hb⟩
  have hdb : ∀ wr : World, Fr3 i1 n1 i2 n2 i3 n3 r1 r2 r3 d1 d2 d3 w wr → Calls Try.prog 15 #[.agg #[.int .i64 i2, .bool r2, .int .i64 n2, .int .u8 (d2 0), .int .u8 (d2 1), .int .u8 (d2 2), .int .u8 (d2 3), .int .u8 (d2 4), .int .u8 (d2 5), .int .u8 (d2 6), .int .u8 (d2 7)]] wr fun e w' => e = .returned (.int .i64 y) ∧ Fr3 i1 n1 i2 n2 i3 n3 r1 r2 r3 d1 d2 d3 w w' := fun wr h => by rw [← hy]; exact (drank_any i2 n2 r2 d2 wr).mono fun e w' ⟨he, hb⟩ => ⟨he, h.step hb⟩
  have hdc : ∀ wr : World, Fr3 i1 n1 i2 n2 i3 n3 r1 r2 r3 d1 d2 d3 w wr → Calls Try.prog 15 #[.agg #[.int .i64 i3, .bool r3, .int .i64 n3, .int .u8 (d3 0), .int .u8 (d3 1), .int .u8 (d3 2), .int .u8 (d3 3), .int .u8 (d3 4), .int .u8 (d3 5), .int .u8 (d3 6), .int .u8 (d3 7)]] wr fun e w' => e = .returned (.int .i64 z) ∧ Fr3 i1 n1 i2 n2 i3 n3 r1 r2 r3 d1 d2 d3 w w' := fun wr h => by rw [← hz]; exact (drank_any i3 n3 r3 d3 wr).mono fun e w' ⟨he, hb⟩ => ⟨he, h.step hb⟩
  have hra : ∀ wr : World, Fr3 i1 n1 i2 n2 i3 n3 r1 r2 r3 d1 d2 d3 w wr → Calls Try.prog 16 #[.agg #[.int .i64 i1, .bool r1, .int .i64 n1, .int .u8 (d1 0), .int .u8 (d1 1), .int .u8 (d1 2), .int .u8 (d1 3), .int .u8 (d1 4), .int .u8 (d1 5), .int .u8 (d1 6), .int .u8 (d1 7)]] wr fun e w' => e = .returned (.int .i64 x) ∧ Fr3 i1 n1 i2 n2 i3 n3 r1 r2 r3 d1 d2 d3 w w' := fun wr h => by rw [← hx]; exact (rank_any i1 n1 r1 d1 wr).mono fun e w' ⟨he, hb⟩ => ⟨he, h.step hb⟩
  have hlab : ∀ wr : World, Fr3 i1 n1 i2 n2 i3 n3 r1 r2 r3 d1 d2 d3 w wr → Calls Try.prog 17 #[.agg #[.int .i64 i1, .bool r1, .int .i64 n1, .int .u8 (d1 0), .int .u8 (d1 1), .int .u8 (d1 2), .int .u8 (d1 3), .int .u8 (d1 4), .int .u8 (d1 5), .int .u8 (d1 6), .int .u8 (d1 7)], .agg #[.int .i64 i2, .bool r2, .int .i64 n2, .int .u8 (d2 0), .int .u8 (d2 1), .int .u8 (d2 2), .int .u8 (d2 3), .int .u8 (d2 4), .int .u8 (d2 5), .int .u8 (d2 6), .int .u8 (d2 7)]] wr fun e w' => e = .returned (.bool (decide (x < y))) ∧ Fr3 i1 n1 i2 n2 i3 n3 r1 r2 r3 d1 d2 d3 w w' := fun wr h => by rw [← hx, ← hy]; exact (less_any i1 n1 i2 n2 r1 r2 d1 d2 wr).mono fun e w' ⟨he, hb⟩ => ⟨he, h.step hb⟩
  have hlba : ∀ wr : World, Fr3 i1 n1 i2 n2 i3 n3 r1 r2 r3 d1 d2 d3 w wr → Calls Try.prog 17 #[.agg #[.int .i64 i2, .bool r2, .int .i64 n2, .int .u8 (d2 0), .int .u8 (d2 1), .int .u8 (d2 2), .int .u8 (d2 3), .int .u8 (d2 4), .int .u8 (d2 5), .int .u8 (d2 6), .int .u8 (d2 7)], .agg #[.int .i64 i1, .bool r1, .int .i64 n1, .int .u8 (d1 0), .int .u8 (d1 1), .int .u8 (d1 2), .int .u8 (d1 3), .int .u8 (d1 4), .int .u8 (d1 5), .int .u8 (d1 6), .int .u8 (d1 7)]] wr fun e w' => e = .returned (.bool (decide (y < x))) ∧ Fr3 i1 n1 i2 n2 i3 n3 r1 r2 r3 d1 d2 d3 w w' := fun wr h => by rw [← hx, ← hy]; exact (less_any i2 n2 i1 n1 r2 r1 d2 d1 wr).mono fun e w' ⟨he, hb⟩ => ⟨he, h.step hb⟩
  have hlbc : ∀ wr : World, Fr3 i1 n1 i2 n2 i3 n3 r1 r2 r3 d1 d2 d3 w wr → Calls Try.prog 17 #[.agg #[.int .i64 i2, .bool r2, .int .i64 n2, .int .u8 (d2 0), .int .u8 (d2 1), .int .u8 (d2 2), .int .u8 (d2 3), .int .u8 (d2 4), .int .u8 (d2 5), .int .u8 (d2 6), .int .u8 (d2 7)], .agg #[.int .i64 i3, .bool r3, .int .i64 n3, .int .u8 (d3 0), .int .u8 (d3 1), .int .u8 (d3 2), .int .u8 (d3 3), .int .u8 (d3 4), .int .u8 (d3 5), .int .u8 (d3 6), .int .u8 (d3 7)]] wr fun e w' => e = .returned (.bool (decide (y < z))) ∧ Fr3 i1 n1 i2 n2 i3 n3 r1 r2 r3 d1 d2 d3 w w' := fun wr h => by rw [← hz, ← hy]; exact (less_any i2 n2 i3 n3 r2 r3 d2 d3 wr).mono fun e w' ⟨he, hb⟩ => ⟨he, h.step hb⟩
  have hlac : ∀ wr : World, Fr3 i1 n1 i2 n2 i3 n3 r1 r2 r3 d1 d2 d3 w wr → Calls Try.prog 17 #[.agg #[.int .i64 i1, .bool r1, .int .i64 n1, .int .u8 (d1 0), .int .u8 (d1 1), .int .u8 (d1 2), .int .u8 (d1 3), .int .u8 (d1 4), .int .u8 (d1 5), .int .u8 (d1 6), .int .u8 (d1 7)], .agg #[.int .i64 i3, .bool r3, .int .i64 n3, .int .u8 (d3 0), .int .u8 (d3 1), .int .u8 (d3 2), .int .u8 (d3 3), .int .u8 (d3 4), .int .u8 (d3 5), .int .u8 (d3 6), .int .u8 (d3 7)]] wr fun e w' => e = .returned (.bool (decide (x < z))) ∧ Fr3 i1 n1 i2 n2 i3 n3 r1 r2 r3 d1 d2 d3 w w' := fun wr h => by rw [← hx, ← hz]; exact (less_any i1 n1 i3 n3 r1 r3 d1 d3 wr).mono fun e w' ⟨he, hb⟩ => ⟨he, h.step hb⟩
  have hlv : ∀ wr : World, Fr3 i1 n1 i2 n2 i3 n3 r1 r2 r3 d1 d2 d3 w wr → Calls Try.prog 7 #[] wr fun e w' => e = .returned (.bool true) ∧ Fr3 i1 n1 i2 n2 i3 n3 r1 r2 r3 d1 d2 d3 w w' := fun wr h => (live4_any wr).mono fun e w' ⟨he, hb⟩ => ⟨he, h.step hb⟩
  have hck : ∀ wr : World, Fr3 i1 n1 i2 n2 i3 n3 r1 r2 r3 d1 d2 d3 w wr → Calls Try.prog 10 #[.agg #[.int .i64 i3, .bool r3, .int .i64 n3, .int .u8 (d3 0), .int .u8 (d3 1), .int .u8 (d3 2), .int .u8 (d3 3), .int .u8 (d3 4), .int .u8 (d3 5), .int .u8 (d3 6), .int .u8 (d3 7)]] wr fun e w' => e = .returned (.int .i64 (chk i3 r3 n3 d3)) ∧ Fr3 i1 n1 i2 n2 i3 n3 r1 r2 r3 d1 d2 d3 w w' := fun wr h => (check_any i3 n3 r3 d3 wr).mono fun e w' ⟨he, hb⟩ => ⟨he, h.step hb⟩
  have hzc : (decide (0 ≤ z) == (chk i3 r3 n3 d3 == 0)) = true := by
    rw [← hz]; unfold rk
    by_cases h : chk i3 r3 n3 d3 = 0
    · have := chk_id h
      rw [if_pos h, h]
      simp
      split <;> omega
    · rw [if_neg h]; simp [h]
  have hord : 0 ≤ x → 0 ≤ y → i1 < i2 → x < y := by
    rw [← hx, ← hy]; unfold rk
    by_cases h : chk i1 r1 n1 d1 = 0
    · by_cases h' : chk i2 r2 n2 d2 = 0
      · rw [if_pos h, if_pos h']
        intro _ _ h3
        split <;> split <;> omega
      · rw [if_neg h']; intro _ h2; omega
    · rw [if_neg h]; intro h1; omega
  clear hx hy hz
  generalize chk i3 r3 n3 d3 = q at hck hzc
  by_cases hxy : x < y
  · have e1 : decide (x < y) = true := decide_eq_true hxy
    have e2 : decide (y < x) = false := decide_eq_false (by omega)
    simp only [e1] at hlab
    simp only [e2] at hlba
    by_cases hyz : y < z
    · have e3 : decide (y < z) = true := decide_eq_true hyz
      have e4 : decide (x < z) = true := decide_eq_true (by omega)
      simp only [e3] at hlbc
      simp only [e4] at hlac
      clear e2 e3 e4 hyz
      have HF0 := Lib.hid hf0
      have HDA := Lib.hid hda
      have HDB := Lib.hid hdb
      have HDC := Lib.hid hdc
      have HRA := Lib.hid hra
      have HLAB := Lib.hid hlab
      have HLBA := Lib.hid hlba
      have HLBC := Lib.hid hlbc
      have HLAC := Lib.hid hlac
      have HLV := Lib.hid hlv
      have HCK := Lib.hid hck
      have HZ := Lib.hid hzc
      clear hf0 hda hdb hdc hra hlab hlba hlbc hlac hlv hck hzc
      go_enter Try.func4, Try.ntmps4
      go_wp2_with fail
      generalize ((w.alloc (Obj.cells #[Value.int IntKind.i64 i1, Value.bool r1, Value.int IntKind.i64 n1, Value.int IntKind.u8 (d1 0), Value.int IntKind.u8 (d1 1), Value.int IntKind.u8 (d1 2), Value.int IntKind.u8 (d1 3), Value.int IntKind.u8 (d1 4), Value.int IntKind.u8 (d1 5), Value.int IntKind.u8 (d1 6), Value.int IntKind.u8 (d1 7)] 24)).alloc (Obj.cells #[Value.int IntKind.i64 i2, Value.bool r2, Value.int IntKind.i64 n2, Value.int IntKind.u8 (d2 0), Value.int IntKind.u8 (d2 1), Value.int IntKind.u8 (d2 2), Value.int IntKind.u8 (d2 3), Value.int IntKind.u8 (d2 4), Value.int IntKind.u8 (d2 5), Value.int IntKind.u8 (d2 6), Value.int IntKind.u8 (d2 7)] 24)).alloc (Obj.cells #[Value.int IntKind.i64 i3, Value.bool r3, Value.int IntKind.i64 n3, Value.int IntKind.u8 (d3 0), Value.int IntKind.u8 (d3 1), Value.int IntKind.u8 (d3 2), Value.int IntKind.u8 (d3 3), Value.int IntKind.u8 (d3 4), Value.int IntKind.u8 (d3 5), Value.int IntKind.u8 (d3 6), Value.int IntKind.u8 (d3 7)] 24) = w0 at HF0
      have k0 := HF0.out.cells
      have h0 : Fr3 i1 n1 i2 n2 i3 n3 r1 r2 r3 d1 d2 d3 w w0.drew := ⟨HF0.out.a, HF0.out.b, HF0.out.c, HF0.out.bel.drew, HF0.out.lt⟩
      go_region_held3 (fun w' => (w'.cell? ⟨w.heap.size, 0, none⟩ = some (.int .i64 i1) ∧ w'.cell? ⟨w.heap.size, 1, none⟩ = some (.bool r1) ∧ w'.cell? ⟨w.heap.size, 2, none⟩ = some (.int .i64 n1) ∧ w'.cell? ⟨w.heap.size, 3, none⟩ = some (.int .u8 (d1 0)) ∧ w'.cell? ⟨w.heap.size, 4, none⟩ = some (.int .u8 (d1 1)) ∧ w'.cell? ⟨w.heap.size, 5, none⟩ = some (.int .u8 (d1 2)) ∧ w'.cell? ⟨w.heap.size, 6, none⟩ = some (.int .u8 (d1 3)) ∧ w'.cell? ⟨w.heap.size, 7, none⟩ = some (.int .u8 (d1 4)) ∧ w'.cell? ⟨w.heap.size, 8, none⟩ = some (.int .u8 (d1 5)) ∧ w'.cell? ⟨w.heap.size, 9, none⟩ = some (.int .u8 (d1 6)) ∧ w'.cell? ⟨w.heap.size, 10, none⟩ = some (.int .u8 (d1 7))) ∧ (w'.cell? ⟨w.heap.size + 1, 0, none⟩ = some (.int .i64 i2) ∧ w'.cell? ⟨w.heap.size + 1, 1, none⟩ = some (.bool r2) ∧ w'.cell? ⟨w.heap.size + 1, 2, none⟩ = some (.int .i64 n2) ∧ w'.cell? ⟨w.heap.size + 1, 3, none⟩ = some (.int .u8 (d2 0)) ∧ w'.cell? ⟨w.heap.size + 1, 4, none⟩ = some (.int .u8 (d2 1)) ∧ w'.cell? ⟨w.heap.size + 1, 5, none⟩ = some (.int .u8 (d2 2)) ∧ w'.cell? ⟨w.heap.size + 1, 6, none⟩ = some (.int .u8 (d2 3)) ∧ w'.cell? ⟨w.heap.size + 1, 7, none⟩ = some (.int .u8 (d2 4)) ∧ w'.cell? ⟨w.heap.size + 1, 8, none⟩ = some (.int .u8 (d2 5)) ∧ w'.cell? ⟨w.heap.size + 1, 9, none⟩ = some (.int .u8 (d2 6)) ∧ w'.cell? ⟨w.heap.size + 1, 10, none⟩ = some (.int .u8 (d2 7))) ∧ (w'.cell? ⟨w.heap.size + 2, 0, none⟩ = some (.int .i64 i3) ∧ w'.cell? ⟨w.heap.size + 2, 1, none⟩ = some (.bool r3) ∧ w'.cell? ⟨w.heap.size + 2, 2, none⟩ = some (.int .i64 n3) ∧ w'.cell? ⟨w.heap.size + 2, 3, none⟩ = some (.int .u8 (d3 0)) ∧ w'.cell? ⟨w.heap.size + 2, 4, none⟩ = some (.int .u8 (d3 1)) ∧ w'.cell? ⟨w.heap.size + 2, 5, none⟩ = some (.int .u8 (d3 2)) ∧ w'.cell? ⟨w.heap.size + 2, 6, none⟩ = some (.int .u8 (d3 3)) ∧ w'.cell? ⟨w.heap.size + 2, 7, none⟩ = some (.int .u8 (d3 4)) ∧ w'.cell? ⟨w.heap.size + 2, 8, none⟩ = some (.int .u8 (d3 5)) ∧ w'.cell? ⟨w.heap.size + 2, 9, none⟩ = some (.int .u8 (d3 6)) ∧ w'.cell? ⟨w.heap.size + 2, 10, none⟩ = some (.int .u8 (d3 7))))
        (first | exact k0 | exact k1 | exact k2 | exact k3)
        (first
        | (go_at_call 15
           (with_reducible refine (HDA.out w0.drew h0).mono ?_)
           rintro e w1 ⟨rfl, h1⟩
           have k1 := h1.cells)
        | (go_at_call 15
           (with_reducible refine (HDB.out w1 h1).mono ?_)
           rintro e w2 ⟨rfl, h2⟩
           have k2 := h2.cells)
        | (go_at_call 15
           (with_reducible refine (HDC.out w2 h2).mono ?_)
           rintro e w3 ⟨rfl, h3⟩
           have k3 := h3.cells))
      obtain ⟨⟨c0, c1, c2, c3, c4, c5, c6, c7, c8, c9, c10⟩, ⟨c11, c12, c13, c14, c15, c16, c17, c18, c19, c20, c21⟩, c22, c23, c24, c25, c26, c27, c28, c29, c30, c31, c32⟩ := h3.cells
      have HF := Lib.hid h3
      clear k0 k1 k2 k3 h0 h1 h2 h3
      go_wp2_with (first | (go_at_call 16; (with_reducible refine (HRA.out _ HF.out).mono ?_); rintro e wN ⟨rfl, hN⟩; clear c0 c1 c2 c3 c4 c5 c6 c7 c8 c9 c10 c11 c12 c13 c14 c15 c16 c17 c18 c19 c20 c21 c22 c23 c24 c25 c26 c27 c28 c29 c30 c31 c32; obtain ⟨⟨c0, c1, c2, c3, c4, c5, c6, c7, c8, c9, c10⟩, ⟨c11, c12, c13, c14, c15, c16, c17, c18, c19, c20, c21⟩, c22, c23, c24, c25, c26, c27, c28, c29, c30, c31, c32⟩ := hN.cells; have HN := Lib.hid hN; clear hN HF; have HF := HN; clear HN) | (go_at_call 17; (with_reducible refine (HLAB.out _ HF.out).mono ?_); rintro e wN ⟨rfl, hN⟩; clear c0 c1 c2 c3 c4 c5 c6 c7 c8 c9 c10 c11 c12 c13 c14 c15 c16 c17 c18 c19 c20 c21 c22 c23 c24 c25 c26 c27 c28 c29 c30 c31 c32; obtain ⟨⟨c0, c1, c2, c3, c4, c5, c6, c7, c8, c9, c10⟩, ⟨c11, c12, c13, c14, c15, c16, c17, c18, c19, c20, c21⟩, c22, c23, c24, c25, c26, c27, c28, c29, c30, c31, c32⟩ := hN.cells; have HN := Lib.hid hN; clear hN HF; have HF := HN; clear HN) | (go_at_call 17; (with_reducible refine (HLBA.out _ HF.out).mono ?_); rintro e wN ⟨rfl, hN⟩; clear c0 c1 c2 c3 c4 c5 c6 c7 c8 c9 c10 c11 c12 c13 c14 c15 c16 c17 c18 c19 c20 c21 c22 c23 c24 c25 c26 c27 c28 c29 c30 c31 c32; obtain ⟨⟨c0, c1, c2, c3, c4, c5, c6, c7, c8, c9, c10⟩, ⟨c11, c12, c13, c14, c15, c16, c17, c18, c19, c20, c21⟩, c22, c23, c24, c25, c26, c27, c28, c29, c30, c31, c32⟩ := hN.cells; have HN := Lib.hid hN; clear hN HF; have HF := HN; clear HN) | (go_at_call 17; (with_reducible refine (HLBC.out _ HF.out).mono ?_); rintro e wN ⟨rfl, hN⟩; clear c0 c1 c2 c3 c4 c5 c6 c7 c8 c9 c10 c11 c12 c13 c14 c15 c16 c17 c18 c19 c20 c21 c22 c23 c24 c25 c26 c27 c28 c29 c30 c31 c32; obtain ⟨⟨c0, c1, c2, c3, c4, c5, c6, c7, c8, c9, c10⟩, ⟨c11, c12, c13, c14, c15, c16, c17, c18, c19, c20, c21⟩, c22, c23, c24, c25, c26, c27, c28, c29, c30, c31, c32⟩ := hN.cells; have HN := Lib.hid hN; clear hN HF; have HF := HN; clear HN) | (go_at_call 17; (with_reducible refine (HLAC.out _ HF.out).mono ?_); rintro e wN ⟨rfl, hN⟩; clear c0 c1 c2 c3 c4 c5 c6 c7 c8 c9 c10 c11 c12 c13 c14 c15 c16 c17 c18 c19 c20 c21 c22 c23 c24 c25 c26 c27 c28 c29 c30 c31 c32; obtain ⟨⟨c0, c1, c2, c3, c4, c5, c6, c7, c8, c9, c10⟩, ⟨c11, c12, c13, c14, c15, c16, c17, c18, c19, c20, c21⟩, c22, c23, c24, c25, c26, c27, c28, c29, c30, c31, c32⟩ := hN.cells; have HN := Lib.hid hN; clear hN HF; have HF := HN; clear HN) | (go_at_call 7; (with_reducible refine (HLV.out _ HF.out).mono ?_); rintro e wN ⟨rfl, hN⟩; clear c0 c1 c2 c3 c4 c5 c6 c7 c8 c9 c10 c11 c12 c13 c14 c15 c16 c17 c18 c19 c20 c21 c22 c23 c24 c25 c26 c27 c28 c29 c30 c31 c32; obtain ⟨⟨c0, c1, c2, c3, c4, c5, c6, c7, c8, c9, c10⟩, ⟨c11, c12, c13, c14, c15, c16, c17, c18, c19, c20, c21⟩, c22, c23, c24, c25, c26, c27, c28, c29, c30, c31, c32⟩ := hN.cells; have HN := Lib.hid hN; clear hN HF; have HF := HN; clear HN) | (go_at_call 10; (with_reducible refine (HCK.out _ HF.out).mono ?_); rintro e wN ⟨rfl, hN⟩; clear c0 c1 c2 c3 c4 c5 c6 c7 c8 c9 c10 c11 c12 c13 c14 c15 c16 c17 c18 c19 c20 c21 c22 c23 c24 c25 c26 c27 c28 c29 c30 c31 c32; obtain ⟨⟨c0, c1, c2, c3, c4, c5, c6, c7, c8, c9, c10⟩, ⟨c11, c12, c13, c14, c15, c16, c17, c18, c19, c20, c21⟩, c22, c23, c24, c25, c26, c27, c28, c29, c30, c31, c32⟩ := hN.cells; have HN := Lib.hid hN; clear hN HF; have HF := HN; clear HN))
      all_goals first
        | (exfalso; omega)
        | (exfalso; have := hord; omega)
        | exact bodyPost_ret (results_tmp rfl _ _ _) rfl ⟨by first | rfl | (rw [HZ.out]; rfl) | exact ret_bool HZ.out, HF.out.bel⟩

    · have e3 : decide (y < z) = false := decide_eq_false hyz
      simp only [e3] at hlbc
      clear e2 e3 hyz
      have HF0 := Lib.hid hf0
      have HDA := Lib.hid hda
      have HDB := Lib.hid hdb
      have HDC := Lib.hid hdc
      have HRA := Lib.hid hra
      have HLAB := Lib.hid hlab
      have HLBA := Lib.hid hlba
      have HLBC := Lib.hid hlbc
      have HLAC := Lib.hid hlac
      have HLV := Lib.hid hlv
      have HCK := Lib.hid hck
      have HZ := Lib.hid hzc
      clear hf0 hda hdb hdc hra hlab hlba hlbc hlac hlv hck hzc
      go_enter Try.func4, Try.ntmps4
      go_wp2_with fail
      generalize ((w.alloc (Obj.cells #[Value.int IntKind.i64 i1, Value.bool r1, Value.int IntKind.i64 n1, Value.int IntKind.u8 (d1 0), Value.int IntKind.u8 (d1 1), Value.int IntKind.u8 (d1 2), Value.int IntKind.u8 (d1 3), Value.int IntKind.u8 (d1 4), Value.int IntKind.u8 (d1 5), Value.int IntKind.u8 (d1 6), Value.int IntKind.u8 (d1 7)] 24)).alloc (Obj.cells #[Value.int IntKind.i64 i2, Value.bool r2, Value.int IntKind.i64 n2, Value.int IntKind.u8 (d2 0), Value.int IntKind.u8 (d2 1), Value.int IntKind.u8 (d2 2), Value.int IntKind.u8 (d2 3), Value.int IntKind.u8 (d2 4), Value.int IntKind.u8 (d2 5), Value.int IntKind.u8 (d2 6), Value.int IntKind.u8 (d2 7)] 24)).alloc (Obj.cells #[Value.int IntKind.i64 i3, Value.bool r3, Value.int IntKind.i64 n3, Value.int IntKind.u8 (d3 0), Value.int IntKind.u8 (d3 1), Value.int IntKind.u8 (d3 2), Value.int IntKind.u8 (d3 3), Value.int IntKind.u8 (d3 4), Value.int IntKind.u8 (d3 5), Value.int IntKind.u8 (d3 6), Value.int IntKind.u8 (d3 7)] 24) = w0 at HF0
      have k0 := HF0.out.cells
      have h0 : Fr3 i1 n1 i2 n2 i3 n3 r1 r2 r3 d1 d2 d3 w w0.drew := ⟨HF0.out.a, HF0.out.b, HF0.out.c, HF0.out.bel.drew, HF0.out.lt⟩
      go_region_held3 (fun w' => (w'.cell? ⟨w.heap.size, 0, none⟩ = some (.int .i64 i1) ∧ w'.cell? ⟨w.heap.size, 1, none⟩ = some (.bool r1) ∧ w'.cell? ⟨w.heap.size, 2, none⟩ = some (.int .i64 n1) ∧ w'.cell? ⟨w.heap.size, 3, none⟩ = some (.int .u8 (d1 0)) ∧ w'.cell? ⟨w.heap.size, 4, none⟩ = some (.int .u8 (d1 1)) ∧ w'.cell? ⟨w.heap.size, 5, none⟩ = some (.int .u8 (d1 2)) ∧ w'.cell? ⟨w.heap.size, 6, none⟩ = some (.int .u8 (d1 3)) ∧ w'.cell? ⟨w.heap.size, 7, none⟩ = some (.int .u8 (d1 4)) ∧ w'.cell? ⟨w.heap.size, 8, none⟩ = some (.int .u8 (d1 5)) ∧ w'.cell? ⟨w.heap.size, 9, none⟩ = some (.int .u8 (d1 6)) ∧ w'.cell? ⟨w.heap.size, 10, none⟩ = some (.int .u8 (d1 7))) ∧ (w'.cell? ⟨w.heap.size + 1, 0, none⟩ = some (.int .i64 i2) ∧ w'.cell? ⟨w.heap.size + 1, 1, none⟩ = some (.bool r2) ∧ w'.cell? ⟨w.heap.size + 1, 2, none⟩ = some (.int .i64 n2) ∧ w'.cell? ⟨w.heap.size + 1, 3, none⟩ = some (.int .u8 (d2 0)) ∧ w'.cell? ⟨w.heap.size + 1, 4, none⟩ = some (.int .u8 (d2 1)) ∧ w'.cell? ⟨w.heap.size + 1, 5, none⟩ = some (.int .u8 (d2 2)) ∧ w'.cell? ⟨w.heap.size + 1, 6, none⟩ = some (.int .u8 (d2 3)) ∧ w'.cell? ⟨w.heap.size + 1, 7, none⟩ = some (.int .u8 (d2 4)) ∧ w'.cell? ⟨w.heap.size + 1, 8, none⟩ = some (.int .u8 (d2 5)) ∧ w'.cell? ⟨w.heap.size + 1, 9, none⟩ = some (.int .u8 (d2 6)) ∧ w'.cell? ⟨w.heap.size + 1, 10, none⟩ = some (.int .u8 (d2 7))) ∧ (w'.cell? ⟨w.heap.size + 2, 0, none⟩ = some (.int .i64 i3) ∧ w'.cell? ⟨w.heap.size + 2, 1, none⟩ = some (.bool r3) ∧ w'.cell? ⟨w.heap.size + 2, 2, none⟩ = some (.int .i64 n3) ∧ w'.cell? ⟨w.heap.size + 2, 3, none⟩ = some (.int .u8 (d3 0)) ∧ w'.cell? ⟨w.heap.size + 2, 4, none⟩ = some (.int .u8 (d3 1)) ∧ w'.cell? ⟨w.heap.size + 2, 5, none⟩ = some (.int .u8 (d3 2)) ∧ w'.cell? ⟨w.heap.size + 2, 6, none⟩ = some (.int .u8 (d3 3)) ∧ w'.cell? ⟨w.heap.size + 2, 7, none⟩ = some (.int .u8 (d3 4)) ∧ w'.cell? ⟨w.heap.size + 2, 8, none⟩ = some (.int .u8 (d3 5)) ∧ w'.cell? ⟨w.heap.size + 2, 9, none⟩ = some (.int .u8 (d3 6)) ∧ w'.cell? ⟨w.heap.size + 2, 10, none⟩ = some (.int .u8 (d3 7))))
        (first | exact k0 | exact k1 | exact k2 | exact k3)
        (first
        | (go_at_call 15
           (with_reducible refine (HDA.out w0.drew h0).mono ?_)
           rintro e w1 ⟨rfl, h1⟩
           have k1 := h1.cells)
        | (go_at_call 15
           (with_reducible refine (HDB.out w1 h1).mono ?_)
           rintro e w2 ⟨rfl, h2⟩
           have k2 := h2.cells)
        | (go_at_call 15
           (with_reducible refine (HDC.out w2 h2).mono ?_)
           rintro e w3 ⟨rfl, h3⟩
           have k3 := h3.cells))
      obtain ⟨⟨c0, c1, c2, c3, c4, c5, c6, c7, c8, c9, c10⟩, ⟨c11, c12, c13, c14, c15, c16, c17, c18, c19, c20, c21⟩, c22, c23, c24, c25, c26, c27, c28, c29, c30, c31, c32⟩ := h3.cells
      have HF := Lib.hid h3
      clear k0 k1 k2 k3 h0 h1 h2 h3
      go_wp2_with (first | (go_at_call 16; (with_reducible refine (HRA.out _ HF.out).mono ?_); rintro e wN ⟨rfl, hN⟩; clear c0 c1 c2 c3 c4 c5 c6 c7 c8 c9 c10 c11 c12 c13 c14 c15 c16 c17 c18 c19 c20 c21 c22 c23 c24 c25 c26 c27 c28 c29 c30 c31 c32; obtain ⟨⟨c0, c1, c2, c3, c4, c5, c6, c7, c8, c9, c10⟩, ⟨c11, c12, c13, c14, c15, c16, c17, c18, c19, c20, c21⟩, c22, c23, c24, c25, c26, c27, c28, c29, c30, c31, c32⟩ := hN.cells; have HN := Lib.hid hN; clear hN HF; have HF := HN; clear HN) | (go_at_call 17; (with_reducible refine (HLAB.out _ HF.out).mono ?_); rintro e wN ⟨rfl, hN⟩; clear c0 c1 c2 c3 c4 c5 c6 c7 c8 c9 c10 c11 c12 c13 c14 c15 c16 c17 c18 c19 c20 c21 c22 c23 c24 c25 c26 c27 c28 c29 c30 c31 c32; obtain ⟨⟨c0, c1, c2, c3, c4, c5, c6, c7, c8, c9, c10⟩, ⟨c11, c12, c13, c14, c15, c16, c17, c18, c19, c20, c21⟩, c22, c23, c24, c25, c26, c27, c28, c29, c30, c31, c32⟩ := hN.cells; have HN := Lib.hid hN; clear hN HF; have HF := HN; clear HN) | (go_at_call 17; (with_reducible refine (HLBA.out _ HF.out).mono ?_); rintro e wN ⟨rfl, hN⟩; clear c0 c1 c2 c3 c4 c5 c6 c7 c8 c9 c10 c11 c12 c13 c14 c15 c16 c17 c18 c19 c20 c21 c22 c23 c24 c25 c26 c27 c28 c29 c30 c31 c32; obtain ⟨⟨c0, c1, c2, c3, c4, c5, c6, c7, c8, c9, c10⟩, ⟨c11, c12, c13, c14, c15, c16, c17, c18, c19, c20, c21⟩, c22, c23, c24, c25, c26, c27, c28, c29, c30, c31, c32⟩ := hN.cells; have HN := Lib.hid hN; clear hN HF; have HF := HN; clear HN) | (go_at_call 17; (with_reducible refine (HLBC.out _ HF.out).mono ?_); rintro e wN ⟨rfl, hN⟩; clear c0 c1 c2 c3 c4 c5 c6 c7 c8 c9 c10 c11 c12 c13 c14 c15 c16 c17 c18 c19 c20 c21 c22 c23 c24 c25 c26 c27 c28 c29 c30 c31 c32; obtain ⟨⟨c0, c1, c2, c3, c4, c5, c6, c7, c8, c9, c10⟩, ⟨c11, c12, c13, c14, c15, c16, c17, c18, c19, c20, c21⟩, c22, c23, c24, c25, c26, c27, c28, c29, c30, c31, c32⟩ := hN.cells; have HN := Lib.hid hN; clear hN HF; have HF := HN; clear HN) | (go_at_call 17; (with_reducible refine (HLAC.out _ HF.out).mono ?_); rintro e wN ⟨rfl, hN⟩; clear c0 c1 c2 c3 c4 c5 c6 c7 c8 c9 c10 c11 c12 c13 c14 c15 c16 c17 c18 c19 c20 c21 c22 c23 c24 c25 c26 c27 c28 c29 c30 c31 c32; obtain ⟨⟨c0, c1, c2, c3, c4, c5, c6, c7, c8, c9, c10⟩, ⟨c11, c12, c13, c14, c15, c16, c17, c18, c19, c20, c21⟩, c22, c23, c24, c25, c26, c27, c28, c29, c30, c31, c32⟩ := hN.cells; have HN := Lib.hid hN; clear hN HF; have HF := HN; clear HN) | (go_at_call 7; (with_reducible refine (HLV.out _ HF.out).mono ?_); rintro e wN ⟨rfl, hN⟩; clear c0 c1 c2 c3 c4 c5 c6 c7 c8 c9 c10 c11 c12 c13 c14 c15 c16 c17 c18 c19 c20 c21 c22 c23 c24 c25 c26 c27 c28 c29 c30 c31 c32; obtain ⟨⟨c0, c1, c2, c3, c4, c5, c6, c7, c8, c9, c10⟩, ⟨c11, c12, c13, c14, c15, c16, c17, c18, c19, c20, c21⟩, c22, c23, c24, c25, c26, c27, c28, c29, c30, c31, c32⟩ := hN.cells; have HN := Lib.hid hN; clear hN HF; have HF := HN; clear HN) | (go_at_call 10; (with_reducible refine (HCK.out _ HF.out).mono ?_); rintro e wN ⟨rfl, hN⟩; clear c0 c1 c2 c3 c4 c5 c6 c7 c8 c9 c10 c11 c12 c13 c14 c15 c16 c17 c18 c19 c20 c21 c22 c23 c24 c25 c26 c27 c28 c29 c30 c31 c32; obtain ⟨⟨c0, c1, c2, c3, c4, c5, c6, c7, c8, c9, c10⟩, ⟨c11, c12, c13, c14, c15, c16, c17, c18, c19, c20, c21⟩, c22, c23, c24, c25, c26, c27, c28, c29, c30, c31, c32⟩ := hN.cells; have HN := Lib.hid hN; clear hN HF; have HF := HN; clear HN))
      all_goals first
        | (exfalso; omega)
        | (exfalso; have := hord; omega)
        | exact bodyPost_ret (results_tmp rfl _ _ _) rfl ⟨by first | rfl | (rw [HZ.out]; rfl) | exact ret_bool HZ.out, HF.out.bel⟩

  · have e1 : decide (x < y) = false := decide_eq_false hxy
    simp only [e1] at hlab
    have HF0 := Lib.hid hf0
    have HDA := Lib.hid hda
    have HDB := Lib.hid hdb
    have HDC := Lib.hid hdc
    have HRA := Lib.hid hra
    have HLAB := Lib.hid hlab
    have HLBA := Lib.hid hlba
    have HLBC := Lib.hid hlbc
    have HLAC := Lib.hid hlac
    have HLV := Lib.hid hlv
    have HCK := Lib.hid hck
    have HZ := Lib.hid hzc
    clear hf0 hda hdb hdc hra hlab hlba hlbc hlac hlv hck hzc
    go_enter Try.func4, Try.ntmps4
    go_wp2_with fail
    generalize ((w.alloc (Obj.cells #[Value.int IntKind.i64 i1, Value.bool r1, Value.int IntKind.i64 n1, Value.int IntKind.u8 (d1 0), Value.int IntKind.u8 (d1 1), Value.int IntKind.u8 (d1 2), Value.int IntKind.u8 (d1 3), Value.int IntKind.u8 (d1 4), Value.int IntKind.u8 (d1 5), Value.int IntKind.u8 (d1 6), Value.int IntKind.u8 (d1 7)] 24)).alloc (Obj.cells #[Value.int IntKind.i64 i2, Value.bool r2, Value.int IntKind.i64 n2, Value.int IntKind.u8 (d2 0), Value.int IntKind.u8 (d2 1), Value.int IntKind.u8 (d2 2), Value.int IntKind.u8 (d2 3), Value.int IntKind.u8 (d2 4), Value.int IntKind.u8 (d2 5), Value.int IntKind.u8 (d2 6), Value.int IntKind.u8 (d2 7)] 24)).alloc (Obj.cells #[Value.int IntKind.i64 i3, Value.bool r3, Value.int IntKind.i64 n3, Value.int IntKind.u8 (d3 0), Value.int IntKind.u8 (d3 1), Value.int IntKind.u8 (d3 2), Value.int IntKind.u8 (d3 3), Value.int IntKind.u8 (d3 4), Value.int IntKind.u8 (d3 5), Value.int IntKind.u8 (d3 6), Value.int IntKind.u8 (d3 7)] 24) = w0 at HF0
    have k0 := HF0.out.cells
    have h0 : Fr3 i1 n1 i2 n2 i3 n3 r1 r2 r3 d1 d2 d3 w w0.drew := ⟨HF0.out.a, HF0.out.b, HF0.out.c, HF0.out.bel.drew, HF0.out.lt⟩
    go_region_held3 (fun w' => (w'.cell? ⟨w.heap.size, 0, none⟩ = some (.int .i64 i1) ∧ w'.cell? ⟨w.heap.size, 1, none⟩ = some (.bool r1) ∧ w'.cell? ⟨w.heap.size, 2, none⟩ = some (.int .i64 n1) ∧ w'.cell? ⟨w.heap.size, 3, none⟩ = some (.int .u8 (d1 0)) ∧ w'.cell? ⟨w.heap.size, 4, none⟩ = some (.int .u8 (d1 1)) ∧ w'.cell? ⟨w.heap.size, 5, none⟩ = some (.int .u8 (d1 2)) ∧ w'.cell? ⟨w.heap.size, 6, none⟩ = some (.int .u8 (d1 3)) ∧ w'.cell? ⟨w.heap.size, 7, none⟩ = some (.int .u8 (d1 4)) ∧ w'.cell? ⟨w.heap.size, 8, none⟩ = some (.int .u8 (d1 5)) ∧ w'.cell? ⟨w.heap.size, 9, none⟩ = some (.int .u8 (d1 6)) ∧ w'.cell? ⟨w.heap.size, 10, none⟩ = some (.int .u8 (d1 7))) ∧ (w'.cell? ⟨w.heap.size + 1, 0, none⟩ = some (.int .i64 i2) ∧ w'.cell? ⟨w.heap.size + 1, 1, none⟩ = some (.bool r2) ∧ w'.cell? ⟨w.heap.size + 1, 2, none⟩ = some (.int .i64 n2) ∧ w'.cell? ⟨w.heap.size + 1, 3, none⟩ = some (.int .u8 (d2 0)) ∧ w'.cell? ⟨w.heap.size + 1, 4, none⟩ = some (.int .u8 (d2 1)) ∧ w'.cell? ⟨w.heap.size + 1, 5, none⟩ = some (.int .u8 (d2 2)) ∧ w'.cell? ⟨w.heap.size + 1, 6, none⟩ = some (.int .u8 (d2 3)) ∧ w'.cell? ⟨w.heap.size + 1, 7, none⟩ = some (.int .u8 (d2 4)) ∧ w'.cell? ⟨w.heap.size + 1, 8, none⟩ = some (.int .u8 (d2 5)) ∧ w'.cell? ⟨w.heap.size + 1, 9, none⟩ = some (.int .u8 (d2 6)) ∧ w'.cell? ⟨w.heap.size + 1, 10, none⟩ = some (.int .u8 (d2 7))) ∧ (w'.cell? ⟨w.heap.size + 2, 0, none⟩ = some (.int .i64 i3) ∧ w'.cell? ⟨w.heap.size + 2, 1, none⟩ = some (.bool r3) ∧ w'.cell? ⟨w.heap.size + 2, 2, none⟩ = some (.int .i64 n3) ∧ w'.cell? ⟨w.heap.size + 2, 3, none⟩ = some (.int .u8 (d3 0)) ∧ w'.cell? ⟨w.heap.size + 2, 4, none⟩ = some (.int .u8 (d3 1)) ∧ w'.cell? ⟨w.heap.size + 2, 5, none⟩ = some (.int .u8 (d3 2)) ∧ w'.cell? ⟨w.heap.size + 2, 6, none⟩ = some (.int .u8 (d3 3)) ∧ w'.cell? ⟨w.heap.size + 2, 7, none⟩ = some (.int .u8 (d3 4)) ∧ w'.cell? ⟨w.heap.size + 2, 8, none⟩ = some (.int .u8 (d3 5)) ∧ w'.cell? ⟨w.heap.size + 2, 9, none⟩ = some (.int .u8 (d3 6)) ∧ w'.cell? ⟨w.heap.size + 2, 10, none⟩ = some (.int .u8 (d3 7))))
      (first | exact k0 | exact k1 | exact k2 | exact k3)
      (first
      | (go_at_call 15
         (with_reducible refine (HDA.out w0.drew h0).mono ?_)
         rintro e w1 ⟨rfl, h1⟩
         have k1 := h1.cells)
      | (go_at_call 15
         (with_reducible refine (HDB.out w1 h1).mono ?_)
         rintro e w2 ⟨rfl, h2⟩
         have k2 := h2.cells)
      | (go_at_call 15
         (with_reducible refine (HDC.out w2 h2).mono ?_)
         rintro e w3 ⟨rfl, h3⟩
         have k3 := h3.cells))
    obtain ⟨⟨c0, c1, c2, c3, c4, c5, c6, c7, c8, c9, c10⟩, ⟨c11, c12, c13, c14, c15, c16, c17, c18, c19, c20, c21⟩, c22, c23, c24, c25, c26, c27, c28, c29, c30, c31, c32⟩ := h3.cells
    have HF := Lib.hid h3
    clear k0 k1 k2 k3 h0 h1 h2 h3
    go_wp2_with (first | (go_at_call 16; (with_reducible refine (HRA.out _ HF.out).mono ?_); rintro e wN ⟨rfl, hN⟩; clear c0 c1 c2 c3 c4 c5 c6 c7 c8 c9 c10 c11 c12 c13 c14 c15 c16 c17 c18 c19 c20 c21 c22 c23 c24 c25 c26 c27 c28 c29 c30 c31 c32; obtain ⟨⟨c0, c1, c2, c3, c4, c5, c6, c7, c8, c9, c10⟩, ⟨c11, c12, c13, c14, c15, c16, c17, c18, c19, c20, c21⟩, c22, c23, c24, c25, c26, c27, c28, c29, c30, c31, c32⟩ := hN.cells; have HN := Lib.hid hN; clear hN HF; have HF := HN; clear HN) | (go_at_call 17; (with_reducible refine (HLAB.out _ HF.out).mono ?_); rintro e wN ⟨rfl, hN⟩; clear c0 c1 c2 c3 c4 c5 c6 c7 c8 c9 c10 c11 c12 c13 c14 c15 c16 c17 c18 c19 c20 c21 c22 c23 c24 c25 c26 c27 c28 c29 c30 c31 c32; obtain ⟨⟨c0, c1, c2, c3, c4, c5, c6, c7, c8, c9, c10⟩, ⟨c11, c12, c13, c14, c15, c16, c17, c18, c19, c20, c21⟩, c22, c23, c24, c25, c26, c27, c28, c29, c30, c31, c32⟩ := hN.cells; have HN := Lib.hid hN; clear hN HF; have HF := HN; clear HN) | (go_at_call 17; (with_reducible refine (HLBA.out _ HF.out).mono ?_); rintro e wN ⟨rfl, hN⟩; clear c0 c1 c2 c3 c4 c5 c6 c7 c8 c9 c10 c11 c12 c13 c14 c15 c16 c17 c18 c19 c20 c21 c22 c23 c24 c25 c26 c27 c28 c29 c30 c31 c32; obtain ⟨⟨c0, c1, c2, c3, c4, c5, c6, c7, c8, c9, c10⟩, ⟨c11, c12, c13, c14, c15, c16, c17, c18, c19, c20, c21⟩, c22, c23, c24, c25, c26, c27, c28, c29, c30, c31, c32⟩ := hN.cells; have HN := Lib.hid hN; clear hN HF; have HF := HN; clear HN) | (go_at_call 17; (with_reducible refine (HLBC.out _ HF.out).mono ?_); rintro e wN ⟨rfl, hN⟩; clear c0 c1 c2 c3 c4 c5 c6 c7 c8 c9 c10 c11 c12 c13 c14 c15 c16 c17 c18 c19 c20 c21 c22 c23 c24 c25 c26 c27 c28 c29 c30 c31 c32; obtain ⟨⟨c0, c1, c2, c3, c4, c5, c6, c7, c8, c9, c10⟩, ⟨c11, c12, c13, c14, c15, c16, c17, c18, c19, c20, c21⟩, c22, c23, c24, c25, c26, c27, c28, c29, c30, c31, c32⟩ := hN.cells; have HN := Lib.hid hN; clear hN HF; have HF := HN; clear HN) | (go_at_call 17; (with_reducible refine (HLAC.out _ HF.out).mono ?_); rintro e wN ⟨rfl, hN⟩; clear c0 c1 c2 c3 c4 c5 c6 c7 c8 c9 c10 c11 c12 c13 c14 c15 c16 c17 c18 c19 c20 c21 c22 c23 c24 c25 c26 c27 c28 c29 c30 c31 c32; obtain ⟨⟨c0, c1, c2, c3, c4, c5, c6, c7, c8, c9, c10⟩, ⟨c11, c12, c13, c14, c15, c16, c17, c18, c19, c20, c21⟩, c22, c23, c24, c25, c26, c27, c28, c29, c30, c31, c32⟩ := hN.cells; have HN := Lib.hid hN; clear hN HF; have HF := HN; clear HN) | (go_at_call 7; (with_reducible refine (HLV.out _ HF.out).mono ?_); rintro e wN ⟨rfl, hN⟩; clear c0 c1 c2 c3 c4 c5 c6 c7 c8 c9 c10 c11 c12 c13 c14 c15 c16 c17 c18 c19 c20 c21 c22 c23 c24 c25 c26 c27 c28 c29 c30 c31 c32; obtain ⟨⟨c0, c1, c2, c3, c4, c5, c6, c7, c8, c9, c10⟩, ⟨c11, c12, c13, c14, c15, c16, c17, c18, c19, c20, c21⟩, c22, c23, c24, c25, c26, c27, c28, c29, c30, c31, c32⟩ := hN.cells; have HN := Lib.hid hN; clear hN HF; have HF := HN; clear HN) | (go_at_call 10; (with_reducible refine (HCK.out _ HF.out).mono ?_); rintro e wN ⟨rfl, hN⟩; clear c0 c1 c2 c3 c4 c5 c6 c7 c8 c9 c10 c11 c12 c13 c14 c15 c16 c17 c18 c19 c20 c21 c22 c23 c24 c25 c26 c27 c28 c29 c30 c31 c32; obtain ⟨⟨c0, c1, c2, c3, c4, c5, c6, c7, c8, c9, c10⟩, ⟨c11, c12, c13, c14, c15, c16, c17, c18, c19, c20, c21⟩, c22, c23, c24, c25, c26, c27, c28, c29, c30, c31, c32⟩ := hN.cells; have HN := Lib.hid hN; clear hN HF; have HF := HN; clear HN))
    all_goals first
      | (exfalso; omega)
      | (exfalso; have := hord; omega)
      | exact bodyPost_ret (results_tmp rfl _ _ _) rfl ⟨by first | rfl | (rw [HZ.out]; rfl) | exact ret_bool HZ.out, HF.out.bel⟩

end Go.Proofs.Ytgbbpochficldaa.frameRanks
