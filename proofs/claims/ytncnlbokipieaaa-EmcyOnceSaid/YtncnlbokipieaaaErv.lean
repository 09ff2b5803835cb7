/- slices.Reverse of a row of numbers of one's own: the library's contract, over this program. -/
import Derived.Test.YtncnlbokipieaaaEEqi
import Derived.Shelf.Slices.Reverse
namespace Go.Proofs.Ytncnlbokipieaaa
open Go.RowKit Go.Sort Go.Shelf
set_option linter.unusedSimpArgs false
set_option linter.unusedVariables false

def lays112_ren : Shelf.Ren :=
  { f := fun x => match x with | 112 => 40 | n => n
    t := fun x => match x with | 0 => 0 | 3 => 3 | 4 => 4 | 28 => 44 | n => n
    g := fun n => n }
theorem lays112 : Lays.n112 Try.prog lays112_ren :=
  { mixed := Eq.refl true,
    f112 := Eq.trans Try.func40 (congrArg some (Eq.refl (Body.n112 lays112_ren))),
    t0 := Try.underlying0,
    a0 := Try.isAgg0,
    z0 := Try.sizeOf0,
    v0 := Try.zeroValue0,
    t3 := Try.underlying3,
    a3 := Try.isAgg3,
    z3 := Try.sizeOf3,
    v3 := Try.zeroValue3,
    t4 := Try.underlying4,
    a4 := Try.isAgg4,
    z4 := Try.sizeOf4,
    v4 := Try.zeroValue4,
    t28 := Try.underlying44,
    a28 := Try.isAgg44,
    z28 := Try.sizeOf44,
    v28 := Try.zeroValue44 }
theorem Qs.holds {w : World} {base e b off n c : Nat} {zs : List Int} (h : Qs w base e (some ⟨b, off, none⟩) n c (ints zs)) : Holds (Value.int .i64) w b off zs.toArray := by
  have hl : zs.length = n := by have := h.len; simpa using this
  intro j hj
  have hj' : j < zs.length := by simpa using hj
  refine ⟨?_, h.frozen rfl _⟩
  rw [h.cell rfl (by omega)]
  simp [hj', getElem!_pos]
theorem Qs.reversed {w : World} {base e b off n c k : Nat} {zs : List Int} (h : Qs w base e (some ⟨b, off, none⟩) n c (ints zs)) :
    Qs (putRow (Value.int .i64) (Sort.ahead w k) b off zs.reverse.toArray) base e (some ⟨b, off, none⟩) n c (ints zs.reverse) ∧ w.grownBy (putRow (Value.int .i64) (Sort.ahead w k) b off zs.reverse.toArray) (some b) := by
  have hl : zs.length = n := by have := h.len; simpa using this
  rcases h.lies with ⟨e1, _⟩ | ⟨b', off', cur, e1, h1, h2, h3, h4⟩
  · cases e1
  cases e1
  have hcap := h.cap
  have hb : (putRow (Value.int .i64) (Sort.ahead w k) b off zs.reverse.toArray).heap[b]? = some (.cells (putCells (Value.int .i64) off zs.reverse.toArray cur) e (0, 0)) := by
    simp [putRow, mapBlock, Sort.ahead, Array.getElem?_modify, h2, onCells]
  refine ⟨⟨by simp [hl], fun v hv => ?_, h.cap, h.max, .inr ⟨b, off, _, rfl, h1, hb, by simpa [putCells] using h3, fun j hj => ?_⟩⟩, ⟨rfl, rfl, rfl, by simp [putRow, mapBlock, Sort.ahead], fun i hi hne => ?_⟩⟩
  · simp at hv
    obtain ⟨x, _, rfl⟩ := hv
    rfl
  · simp only [putCells, Array.getElem?_mapIdx]
    rw [show cur[off + j]? = some (cur[off + j]'(by omega)) from Array.getElem?_eq_getElem (by omega)]
    simp [show j < zs.length by omega, getElem!_pos]
  · have : b ≠ i := fun e => hne (by rw [e])
    simp [putRow, mapBlock, Sort.ahead, Array.getElem?_modify, this]
theorem rev_any (w : World) (base n c : Nat) (A : Option Addr) (zs : List Int) (h : Qs w base 3 A n c (ints zs)) :
    Calls Try.prog 40 #[.slice A n c] w fun e w' => e = .returned (.tuple #[]) ∧ Qs w' base 3 A n c (ints zs.reverse) ∧ w.grownBy w' (blk A) := by
  have hl : zs.length = n := by have := h.len; simpa using this
  have hmax := h.max
  have hcap := h.cap
  simp only [maxLen] at hmax
  rcases h.lies with ⟨rfl, rfl⟩ | ⟨b, off, cur, rfl, h1, h2, h3, h4⟩
  · obtain rfl : n = 0 := by omega
    obtain rfl := List.eq_nil_of_length_eq_zero hl
    refine (Any.slices_Reverse_int_empty lays112 none 0 w).mono ?_
    rintro e w' h'
    obtain ⟨rfl, rfl⟩ := h'
    exact ⟨rfl, h, World.grownBy.refl _ _⟩
  · subst hl
    refine (Any.slices_Reverse_int lays112 b off c zs w h.holds (by omega)).mono ?_
    rintro e w' ⟨rfl, k, rfl⟩
    exact ⟨rfl, (h.reversed (k := k)).1, (h.reversed (k := k)).2⟩
end Go.Proofs.Ytncnlbokipieaaa
