/- What may be encoded, and what stands in no place, by plain questions: numbers that can stand there. -/
import Derived.Test.YtfccjekhdfpkoaaKr
import Derived.Test.YtfccjekhdfpkoaaKz
namespace Go.Proofs.Ytfccjekhdfpkoaa
open Go.RowKit
set_option linter.unusedSimpArgs false
set_option linter.unusedVariables false
theorem eqL_refl (l : List Int) : eqL l l = true := by simp [eqL]
theorem eqM_refl (m : Ms) : eqM m m = true := eqM_iff.2 rfl
theorem fit2 (n : Int) : fitB 2 n = inB n 0 255 := by simp [fitB, inB, kSize, kLow, kHigh]
theorem fit3 (n : Int) : fitB 3 n = inB n 0 65535 := by simp [fitB, inB, kSize, kLow, kHigh]
theorem fit4 (n : Int) : fitB 4 n = inB n 0 4294967295 := by simp [fitB, inB, kSize, kLow, kHigh]
theorem wN_zero (k n : Int) (s : Int × List Int) : (wN k n s).1 = 0 ↔ s.1 = 0 ∧ fitB k n = true := by
  unfold wN fe putE
  by_cases h1 : s.1 = 0 <;> by_cases h2 : fitB k n = true <;> simp [h1, h2]
theorem wR_zero (x : List Int) (s : Int × List Int) : (wR x s).1 = 0 ↔ s.1 = 0 := by
  unfold wR
  by_cases h1 : s.1 = 0 <;> simp [h1]
theorem wN_yes {k n : Int} {l : List Int} (h : fitB k n = true) : wN k n (0, l) = (0, l ++ putL k n) := by
  unfold wN fe putE putA
  simp [h]
theorem wR_yes {x l : List Int} : wR x (0, l) = (0, l ++ x) := by simp [wR]
theorem pl2 (n : Int) : putL 2 n = [n % 256] := by
  unfold putL
  rw [show (kSize 2).toNat = 1 by decide]
  simp [List.range_succ]
theorem pl3 (n : Int) : putL 3 n = [n % 256, n / 256 % 256] := by
  unfold putL
  rw [show (kSize 3).toNat = 2 by decide]
  simp [List.range_succ]
theorem pl4 (n : Int) : putL 4 n = [n % 256, n / 256 % 256, n / 65536 % 256, n / 16777216 % 256] := by
  unfold putL
  rw [show (kSize 4).toNat = 4 by decide]
  simp [List.range_succ]
def rngM (m : Ms) : Bool := rngE m.c m.ki m.ks m.fa m.sz m.n m.co m.sq m.bl m.sp m.cr
theorem inB_iff {n lo hi : Int} : inB n lo hi = true ↔ lo ≤ n ∧ n ≤ hi := by simp [inB]
theorem rng_can {m : Ms} (hc : 1 ≤ m.c ∧ m.c ≤ 17) (h : rngM m = true) : canM m = true := by
  obtain ⟨c, ki, ks, tg, la, fa, su, sz, n, d0, d1, d2, d3, d4, d5, d6, co, sq, bl, sp, cr⟩ := m
  simp only at hc
  have : c = 1 ∨ c = 2 ∨ c = 3 ∨ c = 4 ∨ c = 5 ∨ c = 6 ∨ c = 7 ∨ c = 8 ∨ c = 9 ∨ c = 10 ∨ c = 11 ∨ c = 12 ∨ c = 13 ∨ c = 14 ∨ c = 15 ∨ c = 16 ∨ c = 17 := by omega
  rcases this with rfl | rfl | rfl | rfl | rfl | rfl | rfl | rfl | rfl | rfl | rfl | rfl | rfl | rfl | rfl | rfl | rfl
  all_goals cases fa <;> simp [canM, canE, rngM, rngE, keyB, inB] at h ⊢ <;> omega
theorem rng_st {m : Ms} (hc : 1 ≤ m.c ∧ m.c ≤ 17) (hk : canM m = true) : (stM m).1 = 0 ↔ rngM m = true := by
  have hr := head_rng hk hc
  have hw := wN_first hr.1 hr.2
  unfold stM stE
  rw [hw]
  generalize headE m.c m.tg m.la m.fa m.su m.sz m.n m.sp = x
  obtain ⟨c, ki, ks, tg, la, fa, su, sz, n, d0, d1, d2, d3, d4, d5, d6, co, sq, bl, sp, cr⟩ := m
  simp only at hc
  clear hr hw
  have : c = 1 ∨ c = 2 ∨ c = 3 ∨ c = 4 ∨ c = 5 ∨ c = 6 ∨ c = 7 ∨ c = 8 ∨ c = 9 ∨ c = 10 ∨ c = 11 ∨ c = 12 ∨ c = 13 ∨ c = 14 ∨ c = 15 ∨ c = 16 ∨ c = 17 := by omega
  rcases this with rfl | rfl | rfl | rfl | rfl | rfl | rfl | rfl | rfl | rfl | rfl | rfl | rfl | rfl | rfl | rfl | rfl
  all_goals cases fa <;> simp [canM, canE, rngM, rngE, keyB, restE, wK, wZ, wN_zero, wR_zero, fit2, fit3, fit4, inB] at hk ⊢ <;> (try split) <;> omega
theorem rng_put {m : Ms} (hc : 1 ≤ m.c ∧ m.c ≤ 17) : (putM m).2 = rngM m := by
  unfold putM
  by_cases hk : canM m = true
  · rw [if_pos hk]
    have := rng_st hc hk
    by_cases h : rngM m = true
    · rw [h]; simpa using this.2 h
    · have h2 : ¬ (stM m).1 = 0 := fun e => h (this.1 e)
      simp [h2, h]
  · rw [if_neg hk]
    by_cases h : rngM m = true
    · exact absurd (rng_can hc h) hk
    · simp [h]
end Go.Proofs.Ytfccjekhdfpkoaa
