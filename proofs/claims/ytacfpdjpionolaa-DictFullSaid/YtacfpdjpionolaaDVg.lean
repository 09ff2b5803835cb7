/- ValueMays, walked. -/
import Derived.Deep.RegionHeld
import Derived.Test.YtacfpdjpionolaaDVf
namespace Go.Proofs.Ytacfpdjpionolaa
open Go.RowKit
set_option linter.unusedSimpArgs false
set_option linter.unusedVariables false
theorem Bx4.cells {w w1 : World} {k a lo hi : Int} (h : Bx4 w k a lo hi w1) : w1.cell? ⟨w.heap.size, 0, none⟩ = some (.int .i64 k) ∧ w1.cell? ⟨w.heap.size, 1, none⟩ = some (.int .i64 a) ∧ w1.cell? ⟨w.heap.size, 2, none⟩ = some (.int .i64 lo) ∧ w1.cell? ⟨w.heap.size, 3, none⟩ = some (.int .i64 hi) := ⟨h.c0, h.c1, h.c2, h.c3⟩
theorem get_put {k n : Int} (h : fitB k n = true) : getN k (putA k n) = n ∧ getE k (putA k n) = 0 := by
  have ha : putA k n = putL k n := by simp [putA, h]
  have hl : kSize k = (putL k n).length := by rw [putL_len]; have := k_bounds k; omega
  have hf := h
  simp only [fitB, decide_eq_true_eq] at hf
  have hv : valL k (putL k n) = n := by
    unfold valL
    rw [← Int.toNat_natCast (putL k n).length, ← hl]
    rcases kind_cases k with rfl | rfl | rfl | rfl | rfl | rfl | rfl | hk
    case inr.inr.inr.inr.inr.inr.inr => have := (k_other hk).1; omega
    all_goals
      first | rw [putL1 rfl] | rw [putL2 rfl] | rw [putL4 rfl]
      simp only [numL, kSize, kLow, kHigh] at hf ⊢
      simp at hf ⊢
      split <;> omega
  rw [ha]
  unfold getN getE
  rw [hv, if_pos ⟨hf.1, hl, h⟩, if_neg (by omega), if_neg (by omega), if_pos h]
  exact ⟨rfl, rfl⟩
theorem fits_put {k a lo hi n : Int} (h : mayB k a lo hi = true) (h8 : ¬ k = 8) (h1 : lo ≤ n) (h2 : n ≤ hi) : fitsA k a lo hi (putA k n) = 0 ∧ getN k (putA k n) = n ∧ getE k (putA k n) = 0 := by
  have hf := byt_fit h h8 h1 h2
  obtain ⟨e1, e2⟩ := get_put hf
  have hl : ((putA k n).length : Int) = kSize k := by
    have : putA k n = putL k n := by simp [putA, hf]
    rw [this, putL_len]; have := k_bounds k; omega
  have hL : lenA ((putA k n).length : Int) (kSize k) (kSize k) = 0 := by unfold lenA; rw [hl, if_neg (by omega), if_neg (by omega)]
  unfold fitsA
  rw [if_neg (by simp [h]), if_neg h8, hL, if_neg (by simp), e1, e2, if_neg (by simp), if_neg (by omega), if_neg (by omega)]
  exact ⟨rfl, rfl, rfl⟩
theorem fir_fits (k a lo hi : Int) : (fitsA k a lo hi (firL k a lo hi) == 0) = mayB k a lo hi := by
  cases h : mayB k a lo hi with
  | false =>
    have e : fitsA k a lo hi (firL k a lo hi) = 134217728 := if_pos h
    rw [e]; rfl
  | true =>
    by_cases h8 : k = 8
    · subst h8
      have h' := of_decide_eq_true h
      obtain ⟨m, rfl⟩ := Int.eq_ofNat_of_zero_le (show 0 ≤ lo by omega)
      obtain ⟨e, _⟩ := fir_text h rfl rfl
      rw [e]
      have e2 : fitsA 8 a m hi (List.replicate m 0) = lenA m m hi := by unfold fitsA; rw [if_neg (by simp [h]), if_pos rfl, List.length_replicate]
      rw [e2]
      unfold lenA
      rw [if_neg (by omega), if_neg (by omega)]
      rfl
    · obtain ⟨_, e, h1, h2⟩ := fir_num h h8
      rw [← e, (fits_put h h8 h1 h2).1]
      rfl

end Go.Proofs.Ytacfpdjpionolaa