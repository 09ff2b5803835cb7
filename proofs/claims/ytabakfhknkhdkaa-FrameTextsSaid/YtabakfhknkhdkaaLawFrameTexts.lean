/- The statement FrameTexts: a frame's text, and the frame of any text, are the document's, and go there and back: every frame, and text. No conditions. -/
import Derived.Test.YtabakfhknkhdkaaFrameTextsW
import Derived.Test.YtabakfhknkhdkaaRows
import Derived.ChangeOld
import Derived.ShutString
namespace Go.Proofs.Ytabakfhknkhdkaa.frameTexts
open Go.ChangeShapes Go.WideShapes Go.ChangeAt Go.RowKit
open Go.ChangeMaps (open_string shut_string)
set_option linter.unusedVariables false

theorem walk (i1 n1 : Int) (q1 : Bool) (d1 : Nat → Int) (s : ByteArray) (w : World) (_ : (Lit.int .i64 i1).wf = true) (_ : (Lit.int .i64 n1).wf = true) (hd : ∀ j, j < 8 → 0 ≤ d1 j ∧ d1 j ≤ 255) (hs : s.size ≤ 140737488351232) :
    Calls Try.prog 6 #[.agg #[.int .i64 i1, .bool q1, .int .i64 n1, .int .u8 (d1 0), .int .u8 (d1 1), .int .u8 (d1 2), .int .u8 (d1 3), .int .u8 (d1 4), .int .u8 (d1 5), .int .u8 (d1 6), .int .u8 (d1 7)], .string s] w fun e w' => e = .returned (.bool true) ∧ Below w.heap.size w w' := core i1 n1 q1 d1 s w hd hs

theorem own : ownKnob Try.prog.godebug = none := by kernel_rfl
theorem laidOut : laidOutB Try.prog = true := by kernel_rfl


set_option maxRecDepth 100000 in
theorem lifted (os : Os) (started : os.Started) (H : Type) (enc : TypeId × Value → H) :
    ReturnsInHanded {} Try.checked os 6 .any (Rows.frameTextsSpec.pre6 enc Try.prog Try.f6 Rows.frameTextsRow.domain false) (Rows.frameTextsSpec.post enc Try.prog Try.f6 false true false false) := by
  refine returnsInHanded_of_change_sized (C := Try.checked) own started (by kernel_rfl) Try.func6
    (ChangeSpec.witness6 (enc := enc) (C := Try.checked) false ⟨#[], #[.agg #[.int .i64 0, .bool false, .int .i64 0, .int .u8 0, .int .u8 0, .int .u8 0, .int .u8 0, .int .u8 0, .int .u8 0, .int .u8 0, .int .u8 0], .string ByteArray.empty], []⟩ 8 (by kernel_rfl) (by kernel_rfl) (by kernel_rfl) (by kernel_rfl)) ?_
  intro W base args ds gs before hval0 hW hcnd hsz0 _
  have hval : ∀ (j : Nat) t v, Try.f6.params[j]? = some t → args[j]? = some v → Value.okWide Try.prog W .any base t v := hval0
  have hsz : (DataW.weightsEach Try.prog (Try.f6.params.toList ++ Rows.frameTextsSpec.plain.varTypes Try.prog) (ds ++ gs)).all (· ≤ reachBytes) = true := hsz0
  have hW' := hW
  obtain ⟨p, q, hA0, hV, rfl, hfz, hnd⟩ := hW
  have hA : DataW.TrodAll enc Try.prog W 0 (fun _ => true) true Try.f6.params.toList args.toList ds p := hA0
  rw [Try.params6] at hA hval hsz
  obtain ⟨v0, vs0, d0, ds0, p0, q0, hargs, rfl, rfl, h0, r0⟩ := trodAll_cons hA
  obtain ⟨v1, vs1, d1, ds1, p1, q1, rfl, rfl, rfl, h1, r1⟩ := trodAll_cons r0
  obtain ⟨rfl, rfl, rfl⟩ := trodAll_nil r1
  obtain rfl : args = #[v0, v1] := by cases args; simp_all
  obtain ⟨rfl, rfl⟩ := trodVars_none hV
  have k0 := h0
  have lt0 : ∀ x ∈ p0, x.block < W.heap.size := by obtain ⟨m, hm⟩ := k0; exact DataW.trod_lt m _ _ _ hm
  obtain ⟨i0, n0, g0, b0, rfl, w0, u0, y0⟩ := open_frame (hval 0 24 v0 rfl rfl) h0
  obtain ⟨s1, rfl, rfl, rfl, w1⟩ := open_string Try.underlying9 (hval 1 9 v1 rfl rfl) h1
  have z1 := sized_string hsz (j := 1) (t := 9) rfl rfl
  simp only [reachBytes, Array.length_toList] at z1
  have z1' : s1.size ≤ 140737488351232 := z1
  clear hA0 hval0
  refine (walk i0 n0 g0 b0 s1 W w0 u0 y0 z1').mono fun e W' ⟨he, bel⟩ => ?_
  subst he
  exact ⟨_, rfl, _, _, _, [], _, [], hW', trodAll_mk1 (shut_bool Try.underlying4 _), (trodAll_cons_mk (Below.trod laidOut (by kernel_rfl) (of_decide_eq_true (by kernel_rfl)) k0 bel lt0) (trodAll_cons_mk (shut_string Try.underlying9 w1) trodAll_mk0)), rfl, bel.frame _, fun h => by cases h⟩

theorem over : Rows.frameTextsRow.holds Try.pinned (OpenSpec.ofChange Rows.frameTextsSpec) :=
  OpenClaim.holds_of_wide 6 Try.f6 rfl rfl rfl rfl rfl rfl rfl ⟨rfl, rfl, rfl, rfl, rfl⟩ rfl rfl rfl rfl rfl (by kernel_rfl) Try.func6 (by kernel_rfl)
    (of_decide_eq_true (by kernel_rfl)) (by unfold Func.isWrapper; first | (rw [if_pos (by decide +kernel)]; kernel_rfl) | (rw [if_neg (by decide +kernel)]; exact ⟨rfl, rfl⟩))
    (fun os started H enc _ => lifted os started H enc)

theorem proved : Rows.FrameTextsSaid := over
end Go.Proofs.Ytabakfhknkhdkaa.frameTexts
