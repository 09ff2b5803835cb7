/- A slice of frames as an argument: opened. -/
import Derived.Test.YtgnfohncgfgecaaMh
import Derived.Lib.SmallJoins
import Derived.Deep.Slices
namespace Go.Proofs.Ytgnfohncgfgecaa
open Go.RowKit Go.Joins Go.ChangeShapes Go.WideShapes Go.Deep

theorem cells_frame : Try.prog.cellsOf 30 = 11 := by kernel_rfl
theorem cells_int : Try.prog.cellsOf 3 = 1 := by kernel_rfl
theorem cells_bool : Try.prog.cellsOf 4 = 1 := by kernel_rfl
theorem cells_data : Try.prog.cellsOf 28 = 8 := by kernel_rfl
theorem array11 {α : Type} {cs : Array α} (h : cs.size = 11) : ∃ c0 c1 c2 c3 c4 c5 c6 c7 c8 c9 c10, cs = #[c0, c1, c2, c3, c4, c5, c6, c7, c8, c9, c10] := by
  obtain ⟨l⟩ := cs
  match l, h with
  | [c0, c1, c2, c3, c4, c5, c6, c7, c8, c9, c10], _ => exact ⟨c0, c1, c2, c3, c4, c5, c6, c7, c8, c9, c10, rfl⟩
theorem list11 {α : Type} {l : List α} (h : l.length = 11) : ∃ c0 c1 c2 c3 c4 c5 c6 c7 c8 c9 c10, l = [c0, c1, c2, c3, c4, c5, c6, c7, c8, c9, c10] := by
  match l, h with
  | [c0, c1, c2, c3, c4, c5, c6, c7, c8, c9, c10], _ => exact ⟨c0, c1, c2, c3, c4, c5, c6, c7, c8, c9, c10, rfl⟩
section
variable {H : Type} {enc : TypeId × Value → H} {w : World} {base : Nat} {spare : Nat → Bool} {held : Bool}
theorem frame_of_cells {fuel : Nat} {c0 c1 c2 c3 c4 c5 c6 c7 c8 c9 c10 : Value} {x : DataW H × List MemPlace} (hf : DataW.trod enc Try.prog w base spare held fuel 30 [c0, c1, c2, c3, c4, c5, c6, c7, c8, c9, c10] = some x) :
    ∃ (id n : Int) (q : Bool) (d : Nat → Int), (c0 = .int .i64 id ∧ c1 = .bool q ∧ c2 = .int .i64 n ∧ c3 = .int .u8 (d 0) ∧ c4 = .int .u8 (d 1) ∧ c5 = .int .u8 (d 2) ∧ c6 = .int .u8 (d 3) ∧ c7 = .int .u8 (d 4) ∧ c8 = .int .u8 (d 5) ∧ c9 = .int .u8 (d 6) ∧ c10 = .int .u8 (d 7)) ∧ (Lit.int .i64 id).wf = true ∧ (Lit.int .i64 n).wf = true ∧ ∀ j, j < 8 → 0 ≤ d j ∧ d j ≤ 255 := by
  obtain ⟨y0, y1, y2, y3, m, _, _, h0, h1, h2, h3⟩ := trod_struct4 Try.underlying30 hf
  simp only [cells_int, cells_bool, cells_data] at h0 h1 h2 h3
  obtain ⟨id, e0, _, w0⟩ := DataW.trod_int Try.underlying3 h0
  obtain ⟨q, e1, _⟩ := DataW.trod_bool Try.underlying4 h1
  obtain ⟨n, e2, _, w2⟩ := DataW.trod_int Try.underlying3 h2
  obtain ⟨xs, m3, _, _, _, hlen, hall⟩ := DataW.trod_array Try.underlying28 h3
  have cells_byte : Try.prog.cellsOf 5 = 1 := by kernel_rfl
  simp only [cells_byte] at hall
  have hb : ∀ i, i < 8 → ∃ b, ((([c3, c4, c5, c6, c7, c8, c9, c10] : List Value).drop i).take 1) = [.int .u8 b] ∧ 0 ≤ b ∧ b ≤ 255 := fun i hi => by
    have h := hall i hi
    rw [List.getElem?_eq_getElem (show i < xs.length by omega)] at h
    obtain ⟨b, e, _, wb⟩ := DataW.trod_int Try.underlying5 h
    have := bounds_u8 wb
    exact ⟨b, by simpa using e, by omega, by omega⟩
  obtain ⟨b0, g0, i0⟩ := hb 0 (by omega)
  obtain ⟨b1, g1, i1⟩ := hb 1 (by omega)
  obtain ⟨b2, g2, i2⟩ := hb 2 (by omega)
  obtain ⟨b3, g3, i3⟩ := hb 3 (by omega)
  obtain ⟨b4, g4, i4⟩ := hb 4 (by omega)
  obtain ⟨b5, g5, i5⟩ := hb 5 (by omega)
  obtain ⟨b6, g6, i6⟩ := hb 6 (by omega)
  obtain ⟨b7, g7, i7⟩ := hb 7 (by omega)
  simp at e0 e1 e2 g0 g1 g2 g3 g4 g5 g6 g7
  subst e0 e1 e2 g0 g1 g2 g3 g4 g5 g6 g7
  refine ⟨id, n, q, fun j => [b0, b1, b2, b3, b4, b5, b6, b7].getD j 0, ⟨rfl, rfl, rfl, rfl, rfl, rfl, rfl, rfl, rfl, rfl, rfl⟩, w0, w2, fun j hj => ?_⟩
  match j, hj with
  | 0, _ => exact i0
  | 1, _ => exact i1
  | 2, _ => exact i2
  | 3, _ => exact i3
  | 4, _ => exact i4
  | 5, _ => exact i5
  | 6, _ => exact i6
  | 7, _ => exact i7
theorem open_frame {r : Reach} {b0 : Nat} {v : Value} {dd : DataW H} {p : List MemPlace} (hv : Value.okWide Try.prog w r b0 30 v) (h : DataW.Trod enc Try.prog w base spare held 30 v dd p) :
    ∃ (id n : Int) (q : Bool) (d : Nat → Int), v = .agg #[.int .i64 id, .bool q, .int .i64 n, .int .u8 (d 0), .int .u8 (d 1), .int .u8 (d 2), .int .u8 (d 3), .int .u8 (d 4), .int .u8 (d 5), .int .u8 (d 6), .int .u8 (d 7)] ∧ (Lit.int .i64 id).wf = true ∧ (Lit.int .i64 n).wf = true ∧ ∀ j, j < 8 → 0 ≤ d j ∧ d j ≤ 255 := by
  obtain ⟨cs, rfl, hsz⟩ := okWide_struct Try.underlying30 hv
  obtain ⟨c0, c1, c2, c3, c4, c5, c6, c7, c8, c9, c10, rfl⟩ := array11 (hsz.trans cells_frame)
  obtain ⟨fuel, hf⟩ := h
  obtain ⟨id, n, q, d, ⟨rfl, rfl, rfl, rfl, rfl, rfl, rfl, rfl, rfl, rfl, rfl⟩, w0, w2, h8⟩ := frame_of_cells (by simpa [Value.cells] using hf)
  exact ⟨id, n, q, d, rfl, w0, w2, h8⟩
end
/-- The cells of frame i of a slice. -/
def FrCells (w : World) (b off i : Nat) (x : Ltr) : Prop := w.cell? ⟨b, off + i * 11, none⟩ = some (.int .i64 x.id) ∧ w.cell? ⟨b, off + i * 11 + 1, none⟩ = some (.bool x.r) ∧ w.cell? ⟨b, off + i * 11 + 2, none⟩ = some (.int .i64 x.n) ∧ w.cell? ⟨b, off + i * 11 + 3, none⟩ = some (.int .u8 (x.d 0)) ∧ w.cell? ⟨b, off + i * 11 + 4, none⟩ = some (.int .u8 (x.d 1)) ∧ w.cell? ⟨b, off + i * 11 + 5, none⟩ = some (.int .u8 (x.d 2)) ∧ w.cell? ⟨b, off + i * 11 + 6, none⟩ = some (.int .u8 (x.d 3)) ∧ w.cell? ⟨b, off + i * 11 + 7, none⟩ = some (.int .u8 (x.d 4)) ∧ w.cell? ⟨b, off + i * 11 + 8, none⟩ = some (.int .u8 (x.d 5)) ∧ w.cell? ⟨b, off + i * 11 + 9, none⟩ = some (.int .u8 (x.d 6)) ∧ w.cell? ⟨b, off + i * 11 + 10, none⟩ = some (.int .u8 (x.d 7))
/-- The slice '.slice A n c' of frames reads as fs. -/
structure Frs (w : World) (B : Nat) (A : Option Addr) (n c : Nat) (fs : Nat → Ltr) : Prop where
  cap : n ≤ c
  max : c ≤ maxLen
  cells : 0 < n → ∃ b off, A = some ⟨b, off, none⟩ ∧ b < B ∧ ∀ i, i < n → FrCells w b off i (fs i)
section
variable {w w' : World} {B n c : Nat} {A : Option Addr} {fs : Nat → Ltr}
theorem FrCells.below {b off i : Nat} {x : Ltr} (h : FrCells w b off i x) (hb : Below B w w') (hlt : b < B) : FrCells w' b off i x := by
  obtain ⟨k0, k1, k2, k3, k4, k5, k6, k7, k8, k9, k10⟩ := h
  have hc := fun o => hb.cell (p := ⟨b, o, none⟩) hlt
  exact ⟨(hc _).trans k0, (hc _).trans k1, (hc _).trans k2, (hc _).trans k3, (hc _).trans k4, (hc _).trans k5, (hc _).trans k6, (hc _).trans k7, (hc _).trans k8, (hc _).trans k9, (hc _).trans k10⟩
theorem Frs.below (h : Frs w B A n c fs) (hb : Below B w w') : Frs w' B A n c fs :=
  ⟨h.cap, h.max, fun hn => by
    obtain ⟨b, off, e, hlt, hc⟩ := h.cells hn
    exact ⟨b, off, e, hlt, fun i hi => (hc i hi).below hb hlt⟩⟩
theorem Frs.step (h : Frs w w.heap.size A n c fs) (hb : Below w.heap.size w w') : Frs w' w'.heap.size A n c fs :=
  ⟨h.cap, h.max, fun hn => by
    obtain ⟨b, off, e, hlt, hc⟩ := (h.below hb).cells hn
    exact ⟨b, off, e, Nat.lt_of_lt_of_le hlt hb.size, hc⟩⟩
theorem Frs.take (h : Frs w B A n c fs) {k : Nat} (hk : k ≤ n) : Frs w B A k c fs :=
  ⟨Nat.le_trans hk h.cap, h.max, fun hn => by
    obtain ⟨b, off, e, hlt, hc⟩ := h.cells (by omega)
    exact ⟨b, off, e, hlt, fun i hi => hc i (by omega)⟩⟩
end
theorem add_plain11 (b off i j : Nat) : ((⟨b, off, none⟩ : Addr).add i).add j = ⟨b, off + i + j, none⟩ := by rw [add_plainR, add_plainR]
theorem frs_of_trod {H : Type} {enc : TypeId × Value → H} {w : World} {fuel : Nat} {A : Option Addr} {n c : Nat} {x : DataW H × List MemPlace} (h : DataW.trod enc Try.prog w 0 (fun _ => true) true fuel 48 [.slice A n c] = some x) : ∃ fs, Frs w w.heap.size A n c fs := by
  rcases open_slice Try.underlying48 h with ⟨hcs, _⟩ | ⟨a, len, cap, m, n', D, Pl, hcs, _, hl, hm, hmm, _, hi⟩
  · simp at hcs
    obtain ⟨rfl, rfl, rfl⟩ := hcs
    exact ⟨fun _ => ⟨0, false, 0, fun _ => 0, false⟩, Nat.le_refl _, by simp [maxLen], fun h => absurd h (by omega)⟩
  · simp at hcs
    obtain ⟨rfl, rfl, rfl⟩ := hcs
    simp at hmm
    subst hmm
    rw [cells_frame] at hi
    rcases Nat.eq_zero_or_pos n with h0 | h0
    · subst h0
      exact ⟨fun _ => ⟨0, false, 0, fun _ => 0, false⟩, hl, hm, fun h => absurd h (by omega)⟩
    · obtain ⟨b, off, spot⟩ := a
      obtain ⟨cs0, hc0, ht0⟩ := hi 0 (by omega)
      obtain ⟨_, hcl0, hat0⟩ := World.cells?_some hc0
      have k0 := hat0 0 (by omega)
      rw [List.getElem?_eq_getElem (by omega)] at k0
      have hspot : spot = none := by simpa [Addr.add] using World.cell?_spot k0
      subst hspot
      have hb : b < w.heap.size := by have := block_lt_of_cell k0; simpa [Addr.add] using this
      have hex : ∀ i, ∃ f, i < n → FrCells w b off i f := fun i => by
        by_cases hin : i < n
        · obtain ⟨cs, hc, ht⟩ := hi i (by omega)
          obtain ⟨_, hcl, hat⟩ := World.cells?_some hc
          obtain ⟨c0, c1, c2, c3, c4, c5, c6, c7, c8, c9, c10, rfl⟩ := list11 hcl
          obtain ⟨id, m, q, d, ⟨rfl, rfl, rfl, rfl, rfl, rfl, rfl, rfl, rfl, rfl, rfl⟩, _, _, _⟩ := frame_of_cells ht
          have hk := fun j hj => by
            have := hat j hj
            rw [add_plain11] at this
            exact this
          exact ⟨⟨id, q, m, d, false⟩, fun _ => ⟨hk 0 (by omega), hk 1 (by omega), hk 2 (by omega), hk 3 (by omega), hk 4 (by omega), hk 5 (by omega), hk 6 (by omega), hk 7 (by omega), hk 8 (by omega), hk 9 (by omega), hk 10 (by omega)⟩⟩
        · exact ⟨⟨0, false, 0, fun _ => 0, false⟩, fun h => absurd h hin⟩
      exact ⟨fun i => Classical.choose (hex i), hl, hm, fun _ => ⟨b, off, rfl, hb, fun i hi => Classical.choose_spec (hex i) hi⟩⟩
end Go.Proofs.Ytgnfohncgfgecaa
