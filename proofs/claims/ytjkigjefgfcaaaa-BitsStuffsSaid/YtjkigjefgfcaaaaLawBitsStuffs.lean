/- The statement BitsStuffs: a stuffed row, and the row of any stuffed one, or what is wrong with it, are the document's: every row (of up to 300 bits). No conditions. -/
import Derived.Test.YtjkigjefgfcaaaaBitsD
import Derived.Test.YtjkigjefgfcaaaaBitsE
import Derived.Test.YtjkigjefgfcaaaaRows
import Derived.ChangeOld
import Derived.ShutString
namespace Go.Proofs.Ytjkigjefgfcaaaa.bitsStuffs
open Go.ChangeShapes Go.WideShapes Go.ChangeAt Go.RowKit
set_option linter.unusedVariables false

theorem walk (A : Option Addr) (n c : Nat) (l : List Int) (w : World) (h : Byt w w.heap.size A n c l) :
    Calls Try.prog 4 #[.slice A n c] w fun e w' => e = .returned (.bool true) ∧ Below w.heap.size w w' := by
  by_cases hn : 300 < n
  · go_enter Try.func4, Try.ntmps4
    go_wp2_with fail
    refine (live1_any _).mono ?_
    rintro e w1 ⟨rfl, hb⟩
    go_wp2
    go_ret
    exact ⟨rfl, hb⟩
  · go_enter Try.func4, Try.ntmps4
    go_wp2_with fail
    refine (unstuff_any _ _ _ _ _ h (by omega)).mono ?_
    rintro e w1 ⟨A1, c1, rfl, hB1, hb1⟩
    go_wp2_with fail
    refine (runstuff_any _ _ _ _ _ (h.step hb1) (by omega)).mono ?_
    rintro e w2 ⟨A2, c2, rfl, hB2, hb2⟩
    have hs2 := below_trans' hb1 hb2
    go_wp2_with fail
    refine (live1_any _).mono ?_
    rintro e w3 ⟨rfl, hb3⟩
    have hs3 := below_trans' hs2 hb3
    go_wp2_with fail
    refine (stuff_any _ _ _ _ _ (h.step hs3) (by omega)).mono ?_
    rintro e w4 ⟨A4, c4, rfl, hB4, hb4⟩
    have hs4 := below_trans' hs3 hb4
    go_wp2_with fail
    refine (rstuff_any _ _ _ _ _ (h.step hs4) (by omega)).mono ?_
    rintro e w5 ⟨A5, c5, rfl, hB5, hb5⟩
    have hs5 := below_trans' hs4 hb5
    go_wp2_with fail
    refine (same_any _ _ _ _ _ _ _ _ _ (hB4.step hb5) hB5).mono ?_
    rintro e w6 ⟨rfl, hb6⟩
    have hs6 := below_trans' hs5 hb6
    go_wp2_with fail
    have h36 := below_trans' (below_trans' (below_trans' hb3 hb4) hb5) hb6
    refine (same_any _ _ _ _ _ _ _ _ _ ((hB1.step hb2).step h36) (hB2.step h36)).mono ?_
    rintro e w7 ⟨rfl, hb7⟩
    have hs7 := below_trans' hs6 hb7
    go_wp2
    go_ret
    exact ⟨by simp, hs7⟩

theorem own : ownKnob Try.prog.godebug = none := by kernel_rfl
theorem laidOut : laidOutB Try.prog = true := by kernel_rfl


set_option maxRecDepth 100000 in
theorem lifted (os : Os) (started : os.Started) (H : Type) (enc : TypeId × Value → H) :
    ReturnsInHanded {} Try.checked os 4 .any (Rows.bitsStuffsSpec.pre6 enc Try.prog Try.f4 Rows.bitsStuffsRow.domain false) (Rows.bitsStuffsSpec.post enc Try.prog Try.f4 false true false false) := by
  refine returnsInHanded_of_change (C := Try.checked) own started (by kernel_rfl) Try.func4
    (ChangeSpec.witness6 (enc := enc) (C := Try.checked) false ⟨#[], #[.slice none 0 0], []⟩ 8 (by kernel_rfl) (by kernel_rfl) (by kernel_rfl) (by kernel_rfl)) ?_
  intro W base args ds gs before hval0 hW hcnd _
  have hval : ∀ (j : Nat) t v, Try.f4.params[j]? = some t → args[j]? = some v → Value.okWide Try.prog W .any base t v := hval0
  have hW' := hW
  obtain ⟨p, q, hA0, hV, rfl, hfz, hnd⟩ := hW
  have hA : DataW.TrodAll enc Try.prog W 0 (fun _ => true) true Try.f4.params.toList args.toList ds p := hA0
  rw [Try.params4] at hA hval
  obtain ⟨v0, vs0, d0, ds0, p0, q0, hargs, rfl, rfl, h0, r0⟩ := trodAll_cons hA
  obtain ⟨rfl, rfl, rfl⟩ := trodAll_nil r0
  obtain rfl : args = #[v0] := by cases args; simp_all
  obtain ⟨rfl, rfl⟩ := trodVars_none hV
  obtain ⟨a0, len0, cap0, rfl⟩ := okWide_slice Try.underlying23 (hval 0 23 v0 rfl rfl)
  have k0 := h0
  have lt0 : ∀ x ∈ p0, x.block < W.heap.size := by obtain ⟨m, hm⟩ := k0; exact DataW.trod_lt m _ _ _ hm
  obtain ⟨z0, w0⟩ : ∃ zs, Byt W W.heap.size a0 len0 cap0 zs := by
    obtain ⟨fuel, hf⟩ := h0
    rcases open_ints Try.underlying23 Try.underlying5 (by kernel_rfl) hf with ⟨hcs, _⟩ | ⟨x, l, c, zs, hcs, _, hl, hm, hz, _, hcell, hwz⟩
    · simp [Value.cells] at hcs
      obtain ⟨rfl, rfl, rfl⟩ := hcs
      exact ⟨[], Byt.nil_ _ _⟩
    · simp [Value.cells] at hcs
      obtain ⟨rfl, rfl, rfl⟩ := hcs
      exact ⟨_, byt_of_row hl hm (by simpa using hz) hcell hwz⟩
  clear hA0 hval0
  refine (walk a0 len0 cap0 z0 W w0).mono fun e W' ⟨he, bel⟩ => ?_
  subst he
  exact ⟨_, rfl, _, _, _, [], _, [], hW', trodAll_mk1 (shut_bool Try.underlying4 _), (trodAll_cons_mk (Below.trod laidOut (by kernel_rfl) (of_decide_eq_true (by kernel_rfl)) k0 bel lt0) trodAll_mk0), rfl, bel.frame _, fun h => by cases h⟩

theorem over : Rows.bitsStuffsRow.holds Try.pinned (OpenSpec.ofChange Rows.bitsStuffsSpec) :=
  OpenClaim.holds_of_wide 4 Try.f4 rfl rfl rfl rfl rfl rfl rfl ⟨rfl, rfl, rfl, rfl, rfl⟩ rfl rfl rfl rfl rfl (by kernel_rfl) Try.func4 (by kernel_rfl)
    (of_decide_eq_true (by kernel_rfl)) (by unfold Func.isWrapper; first | (rw [if_pos (by decide +kernel)]; kernel_rfl) | (rw [if_neg (by decide +kernel)]; exact ⟨rfl, rfl⟩))
    (fun os started H enc _ => lifted os started H enc)

theorem proved : Rows.BitsStuffsSaid := over
end Go.Proofs.Ytjkigjefgfcaaaa.bitsStuffs
