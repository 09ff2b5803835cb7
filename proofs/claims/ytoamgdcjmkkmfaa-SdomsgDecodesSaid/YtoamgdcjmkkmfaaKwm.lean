/- SdomsgBack's walk. -/
import Derived.Test.YtoamgdcjmkkmfaaKv
import Derived.Test.YtoamgdcjmkkmfaaKs
import Derived.Test.YtoamgdcjmkkmfaaKma
import Derived.Deep.CutBlock
namespace Go.Proofs.Ytoamgdcjmkkmfaa
open Go.RowKit
set_option linter.unusedSimpArgs false
set_option linter.unusedVariables false
set_option maxHeartbeats 4000000

theorem enc_ok {m : Ms} (h : (encM m).2 = 0) : (1 ≤ m.c ∧ m.c ≤ 17) ∧ canM m = true ∧ (encM m).1 = (stM m).2 ∧ getM m.c (stM m).2 = m := by
  unfold encM at h ⊢
  by_cases h1 : m.c < 1 ∨ 17 < m.c
  · rw [if_pos h1] at h; simp at h
  rw [if_neg h1] at h ⊢
  by_cases h2 : (putM m).2 = false
  · rw [if_pos h2] at h; simp at h
  rw [if_neg h2] at h ⊢
  by_cases h3 : eqM (getM m.c (putM m).1) m = true
  · rw [if_pos h3] at h ⊢
    have hk : canM m = true := by
      unfold putM at h2
      by_cases hk : canM m = true
      · exact hk
      · rw [if_neg hk] at h2; simp at h2
    have hp : (putM m).1 = (stM m).2 := by unfold putM; rw [if_pos hk]
    rw [hp] at h3 ⊢
    exact ⟨by omega, hk, rfl, eqM_iff.1 h3⟩
  · rw [if_neg h3] at h; simp at h
theorem dec_enc {m : Ms} (h : (encM m).2 = 0) {ans : Bool} (ha : askB ans m.c = true) : decM (encM m).1 ans = (m, 0) := by
  obtain ⟨hc, hk, hL, hg⟩ := enc_ok h
  have hh := stM_head hk hc
  have hcmd := cmd_head hk hc ha
  have e : getM (cmdE ((stM m).2.getD 0 0) ans) (stM m).2 = m := by rw [hh, hcmd, hg]
  rw [hL]
  unfold decM
  rw [e, if_pos ⟨h, by rw [hL]; exact eqL_refl _⟩]
theorem dec_ok {l : List Int} {ans : Bool} (h : (decM l ans).2 = 0) : (encM (decM l ans).1).2 = 0 ∧ eqL (encM (decM l ans).1).1 l = true := by
  unfold decM at h ⊢
  by_cases h1 : (encM (getM (cmdE (l.getD 0 0) ans) l)).2 = 0 ∧ eqL (encM (getM (cmdE (l.getD 0 0) ans) l)).1 l = true
  · rw [if_pos h1]; exact h1
  · rw [if_neg h1] at h; simp at h
end Go.Proofs.Ytoamgdcjmkkmfaa
