/- What the plain functions of package word answer, at every kind and number: the span of a kind, its size, its least and greatest number, and which numbers fit. -/
import Derived.Test.YtllaajkpobpeiaaOJBase
import Derived.Test.YtllaajkpobpeiaaProg
namespace Go.Proofs.Ytllaajkpobpeiaa
open Go.RowKit
def kSize (k : Int) : Int := if k = 1 then 1 else if k = 2 then 1 else if k = 3 then 2 else if k = 4 then 4 else if k = 5 then 1 else if k = 6 then 2 else if k = 7 then 4 else 0
def kLow (k : Int) : Int := if k = 5 then -128 else if k = 6 then -32768 else if k = 7 then -2147483648 else 0
def kHigh (k : Int) : Int := if k = 1 then 1 else if k = 2 then 255 else if k = 3 then 65535 else if k = 4 then 4294967295 else if k = 5 then 127 else if k = 6 then 32767 else if k = 7 then 2147483647 else 0

theorem kind_cases (k : Int) : k = 1 ∨ k = 2 ∨ k = 3 ∨ k = 4 ∨ k = 5 ∨ k = 6 ∨ k = 7 ∨ (¬ k = 1 ∧ ¬ k = 2 ∧ ¬ k = 3 ∧ ¬ k = 4 ∧ ¬ k = 5 ∧ ¬ k = 6 ∧ ¬ k = 7) := by omega

theorem k_other {k : Int} (h : ¬ k = 1 ∧ ¬ k = 2 ∧ ¬ k = 3 ∧ ¬ k = 4 ∧ ¬ k = 5 ∧ ¬ k = 6 ∧ ¬ k = 7) : kSize k = 0 ∧ kLow k = 0 ∧ kHigh k = 0 := by
  obtain ⟨h1, h2, h3, h4, h5, h6, h7⟩ := h
  simp [kSize, kLow, kHigh, h1, h2, h3, h4, h5, h6, h7]

theorem k_bounds (k : Int) : 0 ≤ kSize k ∧ kSize k ≤ 4 ∧ -2147483648 ≤ kLow k ∧ kLow k ≤ 0 ∧ 0 ≤ kHigh k ∧ kHigh k ≤ 4294967295 := by
  rcases kind_cases k with rfl | rfl | rfl | rfl | rfl | rfl | rfl | h
  all_goals first | (simp [kSize, kLow, kHigh]; done) | (have := k_other h; omega)

/-- Which numbers are a kind's. -/
def fitB (k n : Int) : Bool := decide (0 < kSize k ∧ kLow k ≤ n ∧ n ≤ kHigh k)
theorem fit_no {k n : Int} (h : ¬ (0 < kSize k ∧ kLow k ≤ n ∧ n ≤ kHigh k)) : fitB k n = false := by simp [fitB]; omega
theorem fit_yes {k n : Int} (h : 0 < kSize k ∧ kLow k ≤ n ∧ n ≤ kHigh k) : fitB k n = true := by simpa [fitB] using h

end Go.Proofs.Ytllaajkpobpeiaa