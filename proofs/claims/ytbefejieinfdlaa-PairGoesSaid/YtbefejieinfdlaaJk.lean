/- pair: arrays of eight bytes that came in. -/
import Derived.Test.YtbefejieinfdlaaJi
namespace Go.Proofs.Ytbefejieinfdlaa
open Go.RowKit Go.Joins Go.ChangeShapes Go.WideShapes Go.Deep
set_option linter.unusedSimpArgs false
set_option linter.unusedVariables false

theorem array8 {α : Type} {cs : Array α} (h : cs.size = 8) : ∃ c0 c1 c2 c3 c4 c5 c6 c7, cs = #[c0, c1, c2, c3, c4, c5, c6, c7] := by
  obtain ⟨l⟩ := cs
  match l, h with
  | [c0, c1, c2, c3, c4, c5, c6, c7], _ => exact ⟨c0, c1, c2, c3, c4, c5, c6, c7, rfl⟩
theorem cells_arr8 : Try.prog.cellsOf 28 = 8 := by kernel_rfl
theorem cells_u8P : Try.prog.cellsOf 5 = 1 := by kernel_rfl
section
variable {H : Type} {enc : TypeId × Value → H} {w : World} {base : Nat} {spare : Nat → Bool} {held : Bool}
theorem okWide_arr {P : Program} {r : Reach} {b0 : Nat} {t e : TypeId} {n : Nat} {v : Value} (ht : P.underlying t = some (.array n e)) (h : Value.okWide P w r b0 t v) : ∃ cs, v = .agg cs ∧ cs.size = P.cellsOf t := by
  simp only [Value.okWide, ht] at h
  obtain ⟨cs, h1, h2, _⟩ := h
  exact ⟨cs, h1, h2⟩
set_option maxRecDepth 100000 in
theorem open_arr8 {r : Reach} {b0 : Nat} {v : Value} {dd : DataW H} {p : List MemPlace} (hv : Value.okWide Try.prog w r b0 28 v) (h : DataW.Trod enc Try.prog w base spare held 28 v dd p) :
    ∃ d : Nat → Int, v = .agg #[.int .u8 (d 0), .int .u8 (d 1), .int .u8 (d 2), .int .u8 (d 3), .int .u8 (d 4), .int .u8 (d 5), .int .u8 (d 6), .int .u8 (d 7)] ∧ ∀ j, j < 8 → 0 ≤ d j ∧ d j ≤ 255 := by
  obtain ⟨cs, rfl, hsz⟩ := okWide_arr Try.underlying28 hv
  obtain ⟨c0, c1, c2, c3, c4, c5, c6, c7, rfl⟩ := array8 (hsz.trans cells_arr8)
  obtain ⟨fuel, hf⟩ := h
  obtain ⟨xs, m3, _, _, _, hlen, hall⟩ := DataW.trod_array Try.underlying28 hf
  simp only [cells_u8P, Value.cells] at hall
  have hb : ∀ i, i < 8 → ∃ b, ((([c0, c1, c2, c3, c4, c5, c6, c7] : List Value).drop i).take 1) = [.int .u8 b] ∧ 0 ≤ b ∧ b ≤ 255 := fun i hi => by
    have h := hall i hi
    rw [List.getElem?_eq_getElem (show i < xs.length by omega)] at h
    obtain ⟨b, e, _, wb⟩ := DataW.trod_int Try.underlying5 h
    have := bounds_u8 wb
    exact ⟨b, by simpa using e, by omega, by omega⟩
  obtain ⟨b0, g0, i0⟩ := hb 0 (by omega)
  obtain ⟨b1, g1, i1⟩ := hb 1 (by omega)
  obtain ⟨b2, g2, i2⟩ := hb 2 (by omega)
  obtain ⟨b3, g3, i3⟩ := hb 3 (by omega)
  obtain ⟨b4, g4, i4⟩ := hb 4 (by omega)
  obtain ⟨b5, g5, i5⟩ := hb 5 (by omega)
  obtain ⟨b6, g6, i6⟩ := hb 6 (by omega)
  obtain ⟨b7, g7, i7⟩ := hb 7 (by omega)
  simp at g0 g1 g2 g3 g4 g5 g6 g7
  subst g0 g1 g2 g3 g4 g5 g6 g7
  refine ⟨fun j => [b0, b1, b2, b3, b4, b5, b6, b7].getD j 0, rfl, fun j hj => ?_⟩
  match j, hj with
  | 0, _ => exact i0
  | 1, _ => exact i1
  | 2, _ => exact i2
  | 3, _ => exact i3
  | 4, _ => exact i4
  | 5, _ => exact i5
  | 6, _ => exact i6
  | 7, _ => exact i7
end
end Go.Proofs.Ytbefejieinfdlaa
