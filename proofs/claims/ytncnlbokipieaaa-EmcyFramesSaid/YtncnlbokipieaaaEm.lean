/- emcy: an emergency as an argument: opened; the walk of EmcyFrames. -/
import Derived.Test.YtncnlbokipieaaaElA
import Derived.Test.YtncnlbokipieaaaElB
import Derived.Test.YtncnlbokipieaaaElC
import Derived.Test.YtncnlbokipieaaaElD
import Derived.Test.YtncnlbokipieaaaEBFrameS
namespace Go.Proofs.Ytncnlbokipieaaa
open Go.RowKit Go.Joins Go.ChangeShapes Go.WideShapes
set_option linter.unusedSimpArgs false
set_option linter.unusedVariables false
theorem cells_em : Try.prog.cellsOf 24 = 8 := by kernel_rfl
theorem cells_info : Try.prog.cellsOf 22 = 5 := by kernel_rfl
theorem array8 {α : Type} {cs : Array α} (h : cs.size = 8) : ∃ c0 c1 c2 c3 c4 c5 c6 c7, cs = #[c0, c1, c2, c3, c4, c5, c6, c7] := by
  obtain ⟨l⟩ := cs
  match l, h with
  | [c0, c1, c2, c3, c4, c5, c6, c7], _ => exact ⟨c0, c1, c2, c3, c4, c5, c6, c7, rfl⟩
section
variable {H : Type} {enc : TypeId × Value → H} {w : World} {base : Nat} {spare : Nat → Bool} {held : Bool}
set_option maxRecDepth 100000 in
theorem open_em {r : Reach} {b0 : Nat} {v : Value} {dd : DataW H} {p : List MemPlace} (hv : Value.okWide Try.prog w r b0 24 v) (h : DataW.Trod enc Try.prog w base spare held 24 v dd p) :
    ∃ (nd cd rg : Int) (i : Nat → Int), v = .agg #[.int .i64 nd, .int .i64 cd, .int .u8 rg, .int .u8 (i 0), .int .u8 (i 1), .int .u8 (i 2), .int .u8 (i 3), .int .u8 (i 4)] ∧ (Lit.int .i64 nd).wf = true ∧ (Lit.int .i64 cd).wf = true ∧ (0 ≤ rg ∧ rg ≤ 255) ∧ ∀ j, j < 5 → 0 ≤ i j ∧ i j ≤ 255 := by
  obtain ⟨cs, rfl, hsz⟩ := okWide_struct Try.underlying24 hv
  obtain ⟨c0, c1, c2, c3, c4, c5, c6, c7, rfl⟩ := array8 (hsz.trans cells_em)
  obtain ⟨fuel, hf⟩ := h
  obtain ⟨y0, y1, y2, y3, m, _, _, h0, h1, h2, h3⟩ := trod_struct4 Try.underlying24 hf
  simp only [cells_int, cells_byte, cells_info, Value.cells] at h0 h1 h2 h3
  obtain ⟨nd, e0, _, w0⟩ := DataW.trod_int Try.underlying3 h0
  obtain ⟨cd, e1, _, w1⟩ := DataW.trod_int Try.underlying3 h1
  obtain ⟨rg, e2, _, w2⟩ := DataW.trod_int Try.underlying5 h2
  obtain ⟨xs, m3, _, _, _, hlen, hall⟩ := DataW.trod_array Try.underlying22 h3
  simp only [cells_byte] at hall
  have hb : ∀ i, i < 5 → ∃ b, ((([c3, c4, c5, c6, c7] : List Value).drop i).take 1) = [.int .u8 b] ∧ 0 ≤ b ∧ b ≤ 255 := fun i hi => by
    have h := hall i hi
    rw [List.getElem?_eq_getElem (show i < xs.length by omega)] at h
    obtain ⟨b, e, _, wb⟩ := DataW.trod_int Try.underlying5 h
    have := bounds_u8 wb
    exact ⟨b, by simpa using e, by omega, by omega⟩
  obtain ⟨b0, g0, i0⟩ := hb 0 (by omega)
  obtain ⟨b1, g1, i1⟩ := hb 1 (by omega)
  obtain ⟨b2, g2, i2⟩ := hb 2 (by omega)
  obtain ⟨b3, g3, i3⟩ := hb 3 (by omega)
  obtain ⟨b4, g4, i4⟩ := hb 4 (by omega)
  simp at e0 e1 e2 g0 g1 g2 g3 g4
  subst e0 e1 e2 g0 g1 g2 g3 g4
  have hrg := bounds_u8 w2
  refine ⟨nd, cd, rg, fun j => [b0, b1, b2, b3, b4].getD j 0, rfl, w0, w1, by omega, fun j hj => ?_⟩
  match j, hj with
  | 0, _ => exact i0
  | 1, _ => exact i1
  | 2, _ => exact i2
  | 3, _ => exact i3
  | 4, _ => exact i4
end
section
variable {a b R : Int} {i : Nat → Int}
theorem renc_no (hn : emOk a b = false) (w : World) : Calls Try.prog 7 #[.agg #[.int .i64 a, .int .i64 b, .int .u8 R, .int .u8 (i 0), .int .u8 (i 1), .int .u8 (i 2), .int .u8 (i 3), .int .u8 (i 4)]] w fun e w' => e = .returned (.tuple #[.agg #[.int .i64 0, .bool false, .int .i64 0, .int .u8 0, .int .u8 0, .int .u8 0, .int .u8 0, .int .u8 0, .int .u8 0, .int .u8 0, .int .u8 0], .int .i64 3]) ∧ Below w.heap.size w w' := by
  by_cases h0 : a < 1
  · exact renc_n1 a b R i w h0
  by_cases h1 : 127 < a
  · exact renc_n2 a b R i w h0 h1
  by_cases h2 : b < 0
  · exact renc_c1 a b R i w h0 h1 h2
  by_cases h3 : 65535 < b
  · exact renc_c2 a b R i w h0 h1 h2 h3
  · exfalso
    simp [emOk, isNI, isCd] at hn
    omega
theorem enc_no (hn : emOk a b = false) (w : World) : Calls Try.prog 6 #[.agg #[.int .i64 a, .int .i64 b, .int .u8 R, .int .u8 (i 0), .int .u8 (i 1), .int .u8 (i 2), .int .u8 (i 3), .int .u8 (i 4)]] w fun e w' => e = .returned (.tuple #[.agg #[.int .i64 0, .bool false, .int .i64 0, .int .u8 0, .int .u8 0, .int .u8 0, .int .u8 0, .int .u8 0, .int .u8 0, .int .u8 0, .int .u8 0], .int .i64 3]) ∧ Below w.heap.size w w' := by
  cases h : isNI a with
  | false => exact enc_node a b R i w h
  | true => exact enc_code a b R i w h (by simpa [emOk, h] using hn)
end
theorem dec_back {a b R : Int} {i : Nat → Int} (hn : isNI a = true) (hc : isCd b = true) (hR : 0 ≤ R ∧ R ≤ 255) (hi : ∀ j, j < 5 → 0 ≤ i j ∧ i j ≤ 255) (w : World) :
    Calls Try.prog 8 #[.agg #[.int .i64 (128 + a), .bool false, .int .i64 8, .int .u8 (b % 256), .int .u8 (b / 256), .int .u8 R, .int .u8 (i 0), .int .u8 (i 1), .int .u8 (i 2), .int .u8 (i 3), .int .u8 (i 4)]] w fun e w' => e = .returned (.tuple #[.agg #[.int .i64 a, .int .i64 b, .int .u8 R, .int .u8 (i 0), .int .u8 (i 1), .int .u8 (i 2), .int .u8 (i 3), .int .u8 (i 4)], .int .i64 0]) ∧ Below w.heap.size w w' := by
  have ha := isN_in hn
  have hb := isC_in hc
  have hq : decF (128 + a) false 8 = true := by simp [decF]; omega
  have hd : ∀ j, j < 8 → 0 ≤ dOf [b % 256, b / 256, R, i 0, i 1, i 2, i 3, i 4] j ∧ dOf [b % 256, b / 256, R, i 0, i 1, i 2, i 3, i 4] j ≤ 255 := fun j hj => by
    match j, hj with
    | 0, _ => show 0 ≤ b % 256 ∧ b % 256 ≤ 255; omega
    | 1, _ => show 0 ≤ b / 256 ∧ b / 256 ≤ 255; omega
    | 2, _ => exact hR
    | 3, _ => exact hi 0 (by omega)
    | 4, _ => exact hi 1 (by omega)
    | 5, _ => exact hi 2 (by omega)
    | 6, _ => exact hi 3 (by omega)
    | 7, _ => exact hi 4 (by omega)
  have h := dec_any (128 + a) 8 false (dOf [b % 256, b / 256, R, i 0, i 1, i 2, i 3, i 4]) w hd
  simp only [dN, dC, dR, dI, dE, hq, if_true] at h
  rw [show (128 + a) - 128 = a by omega, show dOf [b % 256, b / 256, R, i 0, i 1, i 2, i 3, i 4] 0 + 256 * dOf [b % 256, b / 256, R, i 0, i 1, i 2, i 3, i 4] 1 = b from (show b % 256 + 256 * (b / 256) = b by omega)] at h
  exact h
theorem enc_back {id n : Int} {r : Bool} {d : Nat → Int} (hq : decF id r n = true) (hd : ∀ j, j < 8 → 0 ≤ d j ∧ d j ≤ 255) (w : World) :
    Calls Try.prog 6 #[.agg #[.int .i64 (id - 128), .int .i64 (d 0 + 256 * d 1), .int .u8 (d 2), .int .u8 (d (0 + 3)), .int .u8 (d (1 + 3)), .int .u8 (d (2 + 3)), .int .u8 (d (3 + 3)), .int .u8 (d (4 + 3))]] w fun e w' => e = .returned (.tuple #[.agg #[.int .i64 id, .bool r, .int .i64 n, .int .u8 (d 0), .int .u8 (d 1), .int .u8 (d 2), .int .u8 (d 3), .int .u8 (d 4), .int .u8 (d 5), .int .u8 (d 6), .int .u8 (d 7)], .int .i64 0]) ∧ Below w.heap.size w w' := by
  simp only [decF, decide_eq_true_eq] at hq
  obtain ⟨rfl, rfl, h1, h2⟩ := hq
  have d0 := hd 0 (by omega)
  have d1 := hd 1 (by omega)
  have d2 := hd 2 (by omega)
  have h := enc_yes (id - 128) (d 0 + 256 * d 1) (d 2) (fun j => d (j + 3)) w (isN_yes (by omega) (by omega)) (by simp [isCd]; omega) d2.1 d2.2 (fun k hk => hd (k + 3) (by omega))
  rw [show 128 + (id - 128) = id by omega, show (d 0 + 256 * d 1) % 256 = d 0 by omega, show (d 0 + 256 * d 1) / 256 = d 1 by omega] at h
  exact h
theorem frames24_walk (a b R : Int) (i : Nat → Int) (id n : Int) (r : Bool) (d : Nat → Int) (w : World) (hR : 0 ≤ R ∧ R ≤ 255) (hi : ∀ j, j < 5 → 0 ≤ i j ∧ i j ≤ 255) (hd : ∀ j, j < 8 → 0 ≤ d j ∧ d j ≤ 255) :
    Calls Try.prog 3 #[.agg #[.int .i64 a, .int .i64 b, .int .u8 R, .int .u8 (i 0), .int .u8 (i 1), .int .u8 (i 2), .int .u8 (i 3), .int .u8 (i 4)], .agg #[.int .i64 id, .bool r, .int .i64 n, .int .u8 (d 0), .int .u8 (d 1), .int .u8 (d 2), .int .u8 (d 3), .int .u8 (d 4), .int .u8 (d 5), .int .u8 (d 6), .int .u8 (d 7)]] w fun e w' => e = .returned (.bool true) ∧ Below w.heap.size w w' := by
  have H4 := fun w => dec_any id n r d w hd
  have H5 := fun w => rdec_any id n r d w hd
  cases hx : emOk a b with
  | true =>
    obtain ⟨hn, hc⟩ : isNI a = true ∧ isCd b = true := by simpa [emOk] using hx
    have H1 := fun w => enc_yes a b R i w hn hc hR.1 hR.2 hi
    have H2 := fun w => renc_yes a b R i w hn hc hR.1 hR.2 hi
    have H3 := fun w => dec_back (R := R) (i := i) hn hc hR hi w
    cases hq : decF id r n with
    | true =>
      simp only [dN, dC, dR, dI, dE, hq, if_true] at H4 H5
      exact frames24_00 a b R id n (128 + a) 8 (id - 128) (d 0 + 256 * d 1) (d 2) r i d (dOf [b % 256, b / 256, R, i 0, i 1, i 2, i 3, i 4]) (fun j => d (j + 3)) w H1 H2 H3 H4 H5 (fun w => enc_back hq hd w)
    | false =>
      simp only [dN, dC, dR, dI, dE, hq, Bool.false_eq_true, if_false] at H4 H5
      exact frames24_04 a b R id n (128 + a) 8 0 0 0 r i d (dOf [b % 256, b / 256, R, i 0, i 1, i 2, i 3, i 4]) (fun _ => 0) 0 0 false (fun _ => 0) w H1 H2 H3 H4 H5 (fun w => enc_no (i := fun _ => 0) (by decide) w)
  | false =>
    cases hq : decF id r n with
    | true =>
      simp only [dN, dC, dR, dI, dE, hq, if_true] at H4 H5
      exact frames24_30 a b R id n 0 0 (id - 128) (d 0 + 256 * d 1) (d 2) r i d (fun _ => 0) (fun j => d (j + 3)) w (fun w => enc_no hx w) (fun w => renc_no hx w) H4 H5 (fun w => enc_back hq hd w)
    | false =>
      simp only [dN, dC, dR, dI, dE, hq, Bool.false_eq_true, if_false] at H4 H5
      exact frames24_34 a b R id n 0 0 0 0 0 r i d (fun _ => 0) (fun _ => 0) 0 0 false (fun _ => 0) w (fun w => enc_no hx w) (fun w => renc_no hx w) H4 H5 (fun w => enc_no (i := fun _ => 0) (by decide) w)
end Go.Proofs.Ytncnlbokipieaaa
