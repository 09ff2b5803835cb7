/- prod: a table that came in, opened. -/
import Derived.Test.YtllaajkpobpeiaaOn
namespace Go.Proofs.Ytllaajkpobpeiaa
open Go.RowKit Go.Joins Go.ChangeShapes Go.WideShapes Go.Deep
set_option linter.unusedSimpArgs false
set_option linter.unusedVariables false

theorem cells_intO : Try.prog.cellsOf 3 = 1 := by kernel_rfl
theorem cells_dirO : Try.prog.cellsOf 22 = 1 := by kernel_rfl
theorem cells_keyO : Try.prog.cellsOf 24 = 2 := by kernel_rfl
theorem cells_slotO : Try.prog.cellsOf 26 = 3 := by kernel_rfl
theorem cells_mapO : Try.prog.cellsOf 27 = 24 := by kernel_rfl
theorem cells_chanO : Try.prog.cellsOf 29 = 30 := by kernel_rfl
section
variable {H : Type} {enc : TypeId × Value → H} {w : World} {base : Nat} {spare : Nat → Bool} {held : Bool}
theorem slot_of_cells {fuel : Nat} {cs : List Value} {x : DataW H × List MemPlace} (hl : cs.length = 3) (h : DataW.trod enc Try.prog w base spare held fuel 26 cs = some x) : ∃ s : SlV, cs = [.int .i64 s.i, .int .i64 s.j, .int .i64 s.n] := by
  match cs, hl with
  | [c0, c1, c2], _ =>
    obtain ⟨y0, y1, m, _, _, h0, h1⟩ := trod_struct2 Try.underlying26 h
    obtain ⟨z0, z1, m2, _, _, g0, g1⟩ := trod_struct2 Try.underlying24 h0
    simp only [cells_keyO, cells_intO] at h1 g0 g1
    obtain ⟨i, e0, _, w0⟩ := DataW.trod_int Try.underlying3 g0
    obtain ⟨j, e1, _, w1⟩ := DataW.trod_int Try.underlying3 g1
    obtain ⟨b, e2, _, w2⟩ := DataW.trod_int Try.underlying3 h1
    simp at e0 e1 e2
    subst e0 e1 e2
    exact ⟨⟨i, j, b⟩, rfl⟩
theorem chan_of_cells {fuel : Nat} {cs : List Value} {x : DataW H × List MemPlace} (hl : cs.length = 30) (h : DataW.trod enc Try.prog w base spare held fuel 29 cs = some x) : ∃ y : ChV, cs = (chA y).toList := by
  obtain ⟨c0, c1, c2, c3, c4, c5, c6, c7, c8, c9, c10, c11, c12, c13, c14, c15, c16, c17, c18, c19, c20, c21, c22, c23, c24, c25, c26, c27, c28, c29, rfl⟩ := listO30 hl
  obtain ⟨y0, y1, y2, y3, y4, y5, y6, m, _, h0, h1, h2, h3, h4, h5, h6⟩ := trod_structO7 Try.underlying29 h
  simp only [cells_intO, cells_dirO, cells_mapO] at h0 h1 h2 h3 h4 h5 h6
  obtain ⟨a0, e0, _, _⟩ := DataW.trod_int Try.underlying22 h0
  obtain ⟨a1, e1, _, _⟩ := DataW.trod_int Try.underlying3 h1
  obtain ⟨a2, e2, _, _⟩ := DataW.trod_int Try.underlying3 h2
  obtain ⟨a3, e3, _, _⟩ := DataW.trod_int Try.underlying3 h3
  obtain ⟨a4, e4, _, _⟩ := DataW.trod_int Try.underlying3 h4
  obtain ⟨a5, e5, _, _⟩ := DataW.trod_int Try.underlying3 h5
  obtain ⟨xs, m3, _, _, _, hlen, hall⟩ := DataW.trod_array Try.underlying27 h6
  simp only [cells_slotO] at hall
  simp at e0 e1 e2 e3 e4 e5
  subst e0 e1 e2 e3 e4 e5
  have hb : ∀ i, i < 8 → ∃ s : SlV, ((([c6, c7, c8, c9, c10, c11, c12, c13, c14, c15, c16, c17, c18, c19, c20, c21, c22, c23, c24, c25, c26, c27, c28, c29] : List Value).drop (i * 3)).take 3) = [.int .i64 s.i, .int .i64 s.j, .int .i64 s.n] := fun i hi => by
    have h := hall i hi
    rw [List.getElem?_eq_getElem (show i < xs.length by omega)] at h
    exact slot_of_cells (by simp; omega) (by simpa using h)
  obtain ⟨s0, g0⟩ := hb 0 (by omega)
  simp at g0
  obtain ⟨p0, q0, r0⟩ := g0
  obtain ⟨s1, g1⟩ := hb 1 (by omega)
  simp at g1
  obtain ⟨p1, q1, r1⟩ := g1
  obtain ⟨s2, g2⟩ := hb 2 (by omega)
  simp at g2
  obtain ⟨p2, q2, r2⟩ := g2
  obtain ⟨s3, g3⟩ := hb 3 (by omega)
  simp at g3
  obtain ⟨p3, q3, r3⟩ := g3
  obtain ⟨s4, g4⟩ := hb 4 (by omega)
  simp at g4
  obtain ⟨p4, q4, r4⟩ := g4
  obtain ⟨s5, g5⟩ := hb 5 (by omega)
  simp at g5
  obtain ⟨p5, q5, r5⟩ := g5
  obtain ⟨s6, g6⟩ := hb 6 (by omega)
  simp at g6
  obtain ⟨p6, q6, r6⟩ := g6
  obtain ⟨s7, g7⟩ := hb 7 (by omega)
  simp at g7
  obtain ⟨p7, q7, r7⟩ := g7
  subst p0 q0 r0 p1 q1 r1 p2 q2 r2 p3 q3 r3 p4 q4 r4 p5 q5 r5 p6 q6 r6 p7 q7 r7
  exact ⟨⟨a0, a1, a2, a3, a4, a5, fun j => [s0, s1, s2, s3, s4, s5, s6, s7].getD j ⟨0, 0, 0⟩⟩, rfl⟩
set_option maxRecDepth 100000 in
theorem open_chan {r : Reach} {b0 : Nat} {v : Value} {dd : DataW H} {p : List MemPlace} (hv : Value.okWide Try.prog w r b0 29 v) (h : DataW.Trod enc Try.prog w base spare held 29 v dd p) : ∃ y : ChV, v = .agg (chA y) := by
  obtain ⟨cs, rfl, hsz⟩ := okWide_struct Try.underlying29 hv
  obtain ⟨fuel, hf⟩ := h
  obtain ⟨y, hy⟩ := chan_of_cells (cs := cs.toList) (by rw [Array.length_toList]; exact hsz.trans cells_chanO) (by simpa [Value.cells] using hf)
  exact ⟨y, by rw [← Array.toArray_toList (xs := cs), hy]⟩
end
end Go.Proofs.Ytllaajkpobpeiaa
