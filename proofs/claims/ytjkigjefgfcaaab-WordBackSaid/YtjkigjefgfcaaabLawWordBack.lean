/- The statement WordBack: a number that was put is got as it was, and bytes of which a number was got are put as they were: whatever kind, number and bytes. No conditions. -/
import Derived.Test.YtjkigjefgfcaaabLive2
import Derived.Test.YtjkigjefgfcaaabRows
import Derived.ChangeOld
import Derived.ShutString
namespace Go.Proofs.Ytjkigjefgfcaaab.wordBack
open Go.ChangeShapes Go.WideShapes Go.ChangeAt Go.RowKit
set_option linter.unusedVariables false

theorem get_put {k n : Int} (h : fitB k n = true) : getN k (putA k n) = n ∧ getE k (putA k n) = 0 := by
  have ha : putA k n = putL k n := by simp [putA, h]
  have hl : kSize k = (putL k n).length := by rw [putL_len]; have := k_bounds k; omega
  have hf := h
  simp only [fitB, decide_eq_true_eq] at hf
  have hv : valL k (putL k n) = n := by
    unfold valL
    rw [← Int.toNat_natCast (putL k n).length, ← hl]
    rcases kind_cases k with rfl | rfl | rfl | rfl | rfl | rfl | rfl | hk
    case inr.inr.inr.inr.inr.inr.inr => have := (k_other hk).1; omega
    all_goals
      first | rw [putL1 rfl] | rw [putL2 rfl] | rw [putL4 rfl]
      simp only [numL, kSize, kLow, kHigh] at hf ⊢
      simp at hf ⊢
      split <;> omega
  rw [ha]
  unfold getN getE
  rw [hv, if_pos ⟨hf.1, hl, h⟩, if_neg (by omega), if_neg (by omega), if_pos h]
  exact ⟨rfl, rfl⟩

theorem get_bad {k : Int} {l : List Int} (h : ¬ getE k l = 0) : getN k l = 0 := by
  unfold getN
  split
  · rename_i hc
    exact absurd (by unfold getE; rw [if_neg (by omega), if_neg (by omega), if_pos hc.2.2]) h
  · rfl

theorem put_get {k : Int} {l : List Int} (hr : ∀ x ∈ l, 0 ≤ x ∧ x ≤ 255) (h : getE k l = 0) : putA k (getN k l) = l ∧ putE k (getN k l) = 0 := by
  have hc : 0 < kSize k ∧ kSize k = l.length ∧ fitB k (valL k l) = true := by
    have hk := k_bounds k
    unfold getE at h
    split at h
    · omega
    · split at h
      · omega
      · split at h
        · rename_i h1 h2 h3; exact ⟨by omega, by omega, h3⟩
        · omega
  have hn : getN k l = valL k l := by unfold getN; rw [if_pos hc]
  obtain ⟨h0, hl, hf⟩ := hc
  rw [hn]
  refine ⟨?_, by simp [putE, hf]⟩
  have ha : putA k (valL k l) = putL k (valL k l) := by simp [putA, hf]
  rw [ha]
  rcases size_cases hf with hs | hs | hs
  · rw [putL1 hs]
    obtain ⟨x, rfl⟩ : ∃ x, l = [x] := List.length_eq_one_iff.1 (by omega)
    have r0 := hr x (by simp)
    simp only [valL, numL, List.length_cons, List.length_nil]
    simp
    split <;> omega
  · rw [putL2 hs]
    obtain ⟨x, y, rfl⟩ : ∃ x y, l = [x, y] := by
      match l, (show l.length = 2 by omega) with
      | [x, y], _ => exact ⟨x, y, rfl⟩
    have r0 := hr x (by simp)
    have r1 := hr y (by simp)
    simp only [valL, numL, List.length_cons, List.length_nil]
    simp
    split <;> omega
  · rw [putL4 hs]
    obtain ⟨x, y, z, u, rfl⟩ : ∃ x y z u, l = [x, y, z, u] := by
      match l, (show l.length = 4 by omega) with
      | [x, y, z, u], _ => exact ⟨x, y, z, u, rfl⟩
    have r0 := hr x (by simp)
    have r1 := hr y (by simp)
    have r2 := hr z (by simp)
    have r3 := hr u (by simp)
    simp only [valL, numL, List.length_cons, List.length_nil]
    simp
    split <;> omega

theorem walk (k n : Int) (A : Option Addr) (m c : Nat) (l : List Int) (w : World) (_ : (Lit.int .i64 k).wf = true) (_ : (Lit.int .i64 n).wf = true) (h : Byt w w.heap.size A m c l) :
    Calls Try.prog 5 #[.int .i64 k, .int .i64 n, .slice A m c] w fun e w' => e = .returned (.bool true) ∧ Below w.heap.size w w' := by
  have hmm := h.len
  subst hmm
  have hP := fun w => put_any k n w
  have hP2 := fun w => put_any k (getN k l) w
  unfold PutPost at hP hP2
  rcases Bool.eq_false_or_eq_true (fitB k n) with hf | hf
  · obtain ⟨g1, g2⟩ := get_put hf
    have hG := fun (w : World) (A : Option Addr) (c : Nat) (h : Byt w w.heap.size A (putA k n).length c (putA k n)) => get_any k w A _ c (putA k n) h
    unfold GetPost at hG
    rw [g1, g2] at hG
    have hpe : putE k n = 0 := by simp [putE, hf]
    rw [hpe] at hP
    clear hpe hf g1 g2
    by_cases he : getE k l = 0
    · obtain ⟨q1, q2⟩ := put_get h.rng he
      rw [q1, q2] at hP2
      have hG2 := fun (w : World) (h : Byt w w.heap.size A l.length c l) => get_any k w A _ c l h
      unfold GetPost at hG2
      rw [he] at hG2
      have HP := Lib.hid hP
      have HP2 := Lib.hid hP2
      have HG := Lib.hid hG
      have HG2 := Lib.hid hG2
      clear he q1 q2 hP hP2 hG hG2
      go_enter Try.func5, Try.ntmps5
      go_wp2_with fail
      refine (HP.out _).mono ?_
      rintro e w1 ⟨A1, c1, rfl, hB1, hb1⟩
      go_wp2_with fail
      refine (HG.out _ _ _ hB1).mono ?_
      rintro e w2 ⟨rfl, hb2⟩
      go_wp2_with fail
      have hs := below_trans' hb1 hb2
      refine (HG2.out _ (h.step hs)).mono ?_
      rintro e w3 ⟨rfl, hb3⟩
      go_wp2_with fail
      refine (HP2.out _).mono ?_
      rintro e w4 ⟨A2, c2, rfl, hB2, hb4⟩
      go_wp2_with fail
      refine (live2_any _).mono ?_
      rintro e w5 ⟨rfl, hb5⟩
      go_wp2_with fail
      refine (same_any (hB2.step hb5) (h.step (below_trans' (below_trans' (below_trans' hs hb3) hb4) hb5))).mono ?_
      rintro e w6 ⟨rfl, rfl⟩
      go_wp2
      go_ret
      exact ⟨by simp, below_trans' (below_trans' (below_trans' hs hb3) hb4) hb5⟩
    · have hz := get_bad he
      have hG2 := fun (w : World) (h : Byt w w.heap.size A l.length c l) => get_any k w A _ c l h
      unfold GetPost at hG2
      rw [hz] at hG2
      have HP := Lib.hid hP
      have HG := Lib.hid hG
      have HG2 := Lib.hid hG2
      have hd : (getE k l == 0) = false := by simp [he]
      have hd2 : (getE k l != 0) = true := by simp [he]
      clear he hz hP hP2 hG hG2
      go_enter Try.func5, Try.ntmps5
      go_wp2_with fail
      refine (HP.out _).mono ?_
      rintro e w1 ⟨A1, c1, rfl, hB1, hb1⟩
      go_wp2_with fail
      refine (HG.out _ _ _ hB1).mono ?_
      rintro e w2 ⟨rfl, hb2⟩
      go_wp2_with fail
      have hs := below_trans' hb1 hb2
      refine (HG2.out _ (h.step hs)).mono ?_
      rintro e w3 ⟨rfl, hb3⟩
      go_wp2_with fail
      refine (live2_any _).mono ?_
      rintro e w5 ⟨rfl, hb5⟩
      go_wp2
      go_ret
      exact ⟨by simp, below_trans' (below_trans' hs hb3) hb5⟩
  · have hpe : putE k n = 2 := by simp [putE, hf]
    rw [hpe] at hP
    clear hpe hf
    by_cases he : getE k l = 0
    · obtain ⟨q1, q2⟩ := put_get h.rng he
      rw [q1, q2] at hP2
      have hG2 := fun (w : World) (h : Byt w w.heap.size A l.length c l) => get_any k w A _ c l h
      unfold GetPost at hG2
      rw [he] at hG2
      have HP := Lib.hid hP
      have HP2 := Lib.hid hP2
      have HG2 := Lib.hid hG2
      clear he q1 q2 hP hP2 hG2
      go_enter Try.func5, Try.ntmps5
      go_wp2_with fail
      refine (HP.out _).mono ?_
      rintro e w1 ⟨A1, c1, rfl, hB1, hb1⟩
      go_wp2_with fail
      refine (HG2.out _ (h.step hb1)).mono ?_
      rintro e w3 ⟨rfl, hb3⟩
      go_wp2_with fail
      refine (HP2.out _).mono ?_
      rintro e w4 ⟨A2, c2, rfl, hB2, hb4⟩
      go_wp2_with fail
      refine (live2_any _).mono ?_
      rintro e w5 ⟨rfl, hb5⟩
      go_wp2_with fail
      refine (same_any (hB2.step hb5) (h.step (below_trans' (below_trans' (below_trans' hb1 hb3) hb4) hb5))).mono ?_
      rintro e w6 ⟨rfl, rfl⟩
      go_wp2
      go_ret
      exact ⟨by simp, below_trans' (below_trans' (below_trans' hb1 hb3) hb4) hb5⟩
    · have hz := get_bad he
      have hG2 := fun (w : World) (h : Byt w w.heap.size A l.length c l) => get_any k w A _ c l h
      unfold GetPost at hG2
      rw [hz] at hG2
      have HP := Lib.hid hP
      have HG2 := Lib.hid hG2
      have hd : (getE k l == 0) = false := by simp [he]
      have hd2 : (getE k l != 0) = true := by simp [he]
      clear he hz hP hP2 hG2
      go_enter Try.func5, Try.ntmps5
      go_wp2_with fail
      refine (HP.out _).mono ?_
      rintro e w1 ⟨A1, c1, rfl, hB1, hb1⟩
      go_wp2_with fail
      refine (HG2.out _ (h.step hb1)).mono ?_
      rintro e w3 ⟨rfl, hb3⟩
      go_wp2_with fail
      refine (live2_any _).mono ?_
      rintro e w5 ⟨rfl, hb5⟩
      go_wp2
      go_ret
      exact ⟨by simp, below_trans' (below_trans' hb1 hb3) hb5⟩

theorem own : ownKnob Try.prog.godebug = none := by kernel_rfl
theorem laidOut : laidOutB Try.prog = true := by kernel_rfl


set_option maxRecDepth 100000 in
theorem lifted (os : Os) (started : os.Started) (H : Type) (enc : TypeId × Value → H) :
    ReturnsInHanded {} Try.checked os 5 .any (Rows.wordBackSpec.pre6 enc Try.prog Try.f5 Rows.wordBackRow.domain false) (Rows.wordBackSpec.post enc Try.prog Try.f5 false true false false) := by
  refine returnsInHanded_of_change (C := Try.checked) own started (by kernel_rfl) Try.func5
    (ChangeSpec.witness6 (enc := enc) (C := Try.checked) false ⟨#[], #[.int .i64 0, .int .i64 0, .slice none 0 0], []⟩ 8 (by kernel_rfl) (by kernel_rfl) (by kernel_rfl) (by kernel_rfl)) ?_
  intro W base args ds gs before hval0 hW hcnd _
  have hval : ∀ (j : Nat) t v, Try.f5.params[j]? = some t → args[j]? = some v → Value.okWide Try.prog W .any base t v := hval0
  have hW' := hW
  obtain ⟨p, q, hA0, hV, rfl, hfz, hnd⟩ := hW
  have hA : DataW.TrodAll enc Try.prog W 0 (fun _ => true) true Try.f5.params.toList args.toList ds p := hA0
  rw [Try.params5] at hA hval
  obtain ⟨v0, vs0, d0, ds0, p0, q0, hargs, rfl, rfl, h0, r0⟩ := trodAll_cons hA
  obtain ⟨v1, vs1, d1, ds1, p1, q1, rfl, rfl, rfl, h1, r1⟩ := trodAll_cons r0
  obtain ⟨v2, vs2, d2, ds2, p2, q2, rfl, rfl, rfl, h2, r2⟩ := trodAll_cons r1
  obtain ⟨rfl, rfl, rfl⟩ := trodAll_nil r2
  obtain rfl : args = #[v0, v1, v2] := by cases args; simp_all
  obtain ⟨rfl, rfl⟩ := trodVars_none hV
  obtain ⟨a0, rfl, rfl, rfl, w0⟩ := open_int Try.underlying3 (hval 0 3 v0 rfl rfl) h0
  obtain ⟨a1, rfl, rfl, rfl, w1⟩ := open_int Try.underlying2 (hval 1 2 v1 rfl rfl) h1
  obtain ⟨a2, len2, cap2, rfl⟩ := okWide_slice Try.underlying22 (hval 2 22 v2 rfl rfl)
  have k2 := h2
  have lt2 : ∀ x ∈ p2, x.block < W.heap.size := by obtain ⟨m, hm⟩ := k2; exact DataW.trod_lt m _ _ _ hm
  obtain ⟨z2, w2⟩ : ∃ zs, Byt W W.heap.size a2 len2 cap2 zs := by
    obtain ⟨fuel, hf⟩ := h2
    rcases open_ints Try.underlying22 Try.underlying5 (by kernel_rfl) hf with ⟨hcs, _⟩ | ⟨x, l, c, zs, hcs, _, hl, hm, hz, _, hcell, hwz⟩
    · simp [Value.cells] at hcs
      obtain ⟨rfl, rfl, rfl⟩ := hcs
      exact ⟨[], Byt.nil_ _ _⟩
    · simp [Value.cells] at hcs
      obtain ⟨rfl, rfl, rfl⟩ := hcs
      exact ⟨_, byt_of_row hl hm (by simpa using hz) hcell hwz⟩
  clear hA0 hval0
  refine (walk a0 a1 a2 len2 cap2 z2 W w0 w1 w2).mono fun e W' ⟨he, bel⟩ => ?_
  subst he
  exact ⟨_, rfl, _, _, _, [], _, [], hW', trodAll_mk1 (shut_bool Try.underlying4 _), (trodAll_cons_mk (shut_int Try.underlying3 w0) (trodAll_cons_mk (shut_int Try.underlying2 w1) (trodAll_cons_mk (Below.trod laidOut (by kernel_rfl) (of_decide_eq_true (by kernel_rfl)) k2 bel lt2) trodAll_mk0))), rfl, bel.frame _, fun h => by cases h⟩

theorem over : Rows.wordBackRow.holds Try.pinned (OpenSpec.ofChange Rows.wordBackSpec) :=
  OpenClaim.holds_of_wide 5 Try.f5 rfl rfl rfl rfl rfl rfl rfl ⟨rfl, rfl, rfl, rfl, rfl⟩ rfl rfl rfl rfl rfl (by kernel_rfl) Try.func5 (by kernel_rfl)
    (of_decide_eq_true (by kernel_rfl)) (by unfold Func.isWrapper; first | (rw [if_pos (by decide +kernel)]; kernel_rfl) | (rw [if_neg (by decide +kernel)]; exact ⟨rfl, rfl⟩))
    (fun os started H enc _ => lifted os started H enc)

theorem proved : Rows.WordBackSaid := over
end Go.Proofs.Ytjkigjefgfcaaab.wordBack
