/- The statement FrameRanks: the frame of the lower rank wins: every three frames. No conditions. -/
import Derived.Test.YtgbbpochficldaaFrameRanksW
import Derived.Test.YtgbbpochficldaaRows
import Derived.ChangeOld
import Derived.ShutString
namespace Go.Proofs.Ytgbbpochficldaa.frameRanks
open Go.ChangeShapes Go.WideShapes Go.ChangeAt Go.RowKit
set_option linter.unusedVariables false

theorem walk (i1 n1 : Int) (q1 : Bool) (d1 : Nat → Int) (i2 n2 : Int) (q2 : Bool) (d2 : Nat → Int) (i3 n3 : Int) (q3 : Bool) (d3 : Nat → Int) (w : World) (_ : (Lit.int .i64 i1).wf = true) (_ : (Lit.int .i64 n1).wf = true) (_ : ∀ j, j < 8 → 0 ≤ d1 j ∧ d1 j ≤ 255) (_ : (Lit.int .i64 i2).wf = true) (_ : (Lit.int .i64 n2).wf = true) (_ : ∀ j, j < 8 → 0 ≤ d2 j ∧ d2 j ≤ 255) (_ : (Lit.int .i64 i3).wf = true) (_ : (Lit.int .i64 n3).wf = true) (_ : ∀ j, j < 8 → 0 ≤ d3 j ∧ d3 j ≤ 255) :
    Calls Try.prog 4 #[.agg #[.int .i64 i1, .bool q1, .int .i64 n1, .int .u8 (d1 0), .int .u8 (d1 1), .int .u8 (d1 2), .int .u8 (d1 3), .int .u8 (d1 4), .int .u8 (d1 5), .int .u8 (d1 6), .int .u8 (d1 7)], .agg #[.int .i64 i2, .bool q2, .int .i64 n2, .int .u8 (d2 0), .int .u8 (d2 1), .int .u8 (d2 2), .int .u8 (d2 3), .int .u8 (d2 4), .int .u8 (d2 5), .int .u8 (d2 6), .int .u8 (d2 7)], .agg #[.int .i64 i3, .bool q3, .int .i64 n3, .int .u8 (d3 0), .int .u8 (d3 1), .int .u8 (d3 2), .int .u8 (d3 3), .int .u8 (d3 4), .int .u8 (d3 5), .int .u8 (d3 6), .int .u8 (d3 7)]] w fun e w' => e = .returned (.bool true) ∧ Below w.heap.size w w' := core i1 n1 i2 n2 i3 n3 q1 q2 q3 d1 d2 d3 w

theorem own : ownKnob Try.prog.godebug = none := by kernel_rfl
theorem laidOut : laidOutB Try.prog = true := by kernel_rfl


set_option maxRecDepth 100000 in
theorem lifted (os : Os) (started : os.Started) (H : Type) (enc : TypeId × Value → H) :
    ReturnsInHanded {} Try.checked os 4 .any (Rows.frameRanksSpec.pre6 enc Try.prog Try.f4 Rows.frameRanksRow.domain false) (Rows.frameRanksSpec.post enc Try.prog Try.f4 false true false false) := by
  refine returnsInHanded_of_change (C := Try.checked) own started (by kernel_rfl) Try.func4
    (ChangeSpec.witness6 (enc := enc) (C := Try.checked) false ⟨#[], #[.agg #[.int .i64 0, .bool false, .int .i64 0, .int .u8 0, .int .u8 0, .int .u8 0, .int .u8 0, .int .u8 0, .int .u8 0, .int .u8 0, .int .u8 0], .agg #[.int .i64 0, .bool false, .int .i64 0, .int .u8 0, .int .u8 0, .int .u8 0, .int .u8 0, .int .u8 0, .int .u8 0, .int .u8 0, .int .u8 0], .agg #[.int .i64 0, .bool false, .int .i64 0, .int .u8 0, .int .u8 0, .int .u8 0, .int .u8 0, .int .u8 0, .int .u8 0, .int .u8 0, .int .u8 0]], []⟩ 8 (by kernel_rfl) (by kernel_rfl) (by kernel_rfl) (by kernel_rfl)) ?_
  intro W base args ds gs before hval0 hW hcnd _
  have hval : ∀ (j : Nat) t v, Try.f4.params[j]? = some t → args[j]? = some v → Value.okWide Try.prog W .any base t v := hval0
  have hW' := hW
  obtain ⟨p, q, hA0, hV, rfl, hfz, hnd⟩ := hW
  have hA : DataW.TrodAll enc Try.prog W 0 (fun _ => true) true Try.f4.params.toList args.toList ds p := hA0
  rw [Try.params4] at hA hval
  obtain ⟨v0, vs0, d0, ds0, p0, q0, hargs, rfl, rfl, h0, r0⟩ := trodAll_cons hA
  obtain ⟨v1, vs1, d1, ds1, p1, q1, rfl, rfl, rfl, h1, r1⟩ := trodAll_cons r0
  obtain ⟨v2, vs2, d2, ds2, p2, q2, rfl, rfl, rfl, h2, r2⟩ := trodAll_cons r1
  obtain ⟨rfl, rfl, rfl⟩ := trodAll_nil r2
  obtain rfl : args = #[v0, v1, v2] := by cases args; simp_all
  obtain ⟨rfl, rfl⟩ := trodVars_none hV
  have k0 := h0
  have lt0 : ∀ x ∈ p0, x.block < W.heap.size := by obtain ⟨m, hm⟩ := k0; exact DataW.trod_lt m _ _ _ hm
  obtain ⟨i0, n0, g0, b0, rfl, w0, u0, y0⟩ := open_frame (hval 0 24 v0 rfl rfl) h0
  have k1 := h1
  have lt1 : ∀ x ∈ p1, x.block < W.heap.size := by obtain ⟨m, hm⟩ := k1; exact DataW.trod_lt m _ _ _ hm
  obtain ⟨i1, n1, g1, b1, rfl, w1, u1, y1⟩ := open_frame (hval 1 24 v1 rfl rfl) h1
  have k2 := h2
  have lt2 : ∀ x ∈ p2, x.block < W.heap.size := by obtain ⟨m, hm⟩ := k2; exact DataW.trod_lt m _ _ _ hm
  obtain ⟨i2, n2, g2, b2, rfl, w2, u2, y2⟩ := open_frame (hval 2 24 v2 rfl rfl) h2
  clear hA0 hval0
  refine (walk i0 n0 g0 b0 i1 n1 g1 b1 i2 n2 g2 b2 W w0 u0 y0 w1 u1 y1 w2 u2 y2).mono fun e W' ⟨he, bel⟩ => ?_
  subst he
  exact ⟨_, rfl, _, _, _, [], _, [], hW', trodAll_mk1 (shut_bool Try.underlying4 _), (trodAll_cons_mk (Below.trod laidOut (by kernel_rfl) (of_decide_eq_true (by kernel_rfl)) k0 bel lt0) (trodAll_cons_mk (Below.trod laidOut (by kernel_rfl) (of_decide_eq_true (by kernel_rfl)) k1 bel lt1) (trodAll_cons_mk (Below.trod laidOut (by kernel_rfl) (of_decide_eq_true (by kernel_rfl)) k2 bel lt2) trodAll_mk0))), rfl, bel.frame _, fun h => by cases h⟩

theorem over : Rows.frameRanksRow.holds Try.pinned (OpenSpec.ofChange Rows.frameRanksSpec) :=
  OpenClaim.holds_of_wide 4 Try.f4 rfl rfl rfl rfl rfl rfl rfl ⟨rfl, rfl, rfl, rfl, rfl⟩ rfl rfl rfl rfl rfl (by kernel_rfl) Try.func4 (by kernel_rfl)
    (of_decide_eq_true (by kernel_rfl)) (by unfold Func.isWrapper; first | (rw [if_pos (by decide +kernel)]; kernel_rfl) | (rw [if_neg (by decide +kernel)]; exact ⟨rfl, rfl⟩))
    (fun os started H enc _ => lifted os started H enc)

theorem proved : Rows.FrameRanksSaid := over
end Go.Proofs.Ytgbbpochficldaa.frameRanks
