/- What the plain functions of package word answer, at every kind and number: the span of a kind, its size, its least and greatest number, and which numbers fit. -/
import Derived.Test.YtacfpdjpionolaaProg
import Derived.Test.YtacfpdjpionolaaDRa
namespace Go.Proofs.Ytacfpdjpionolaa
open Go.RowKit
def kSize (k : Int) : Int := if k = 1 then 1 else if k = 2 then 1 else if k = 3 then 2 else if k = 4 then 4 else if k = 5 then 1 else if k = 6 then 2 else if k = 7 then 4 else 0
def kLow (k : Int) : Int := if k = 5 then -128 else if k = 6 then -32768 else if k = 7 then -2147483648 else 0
def kHigh (k : Int) : Int := if k = 1 then 1 else if k = 2 then 255 else if k = 3 then 65535 else if k = 4 then 4294967295 else if k = 5 then 127 else if k = 6 then 32767 else if k = 7 then 2147483647 else 0

theorem kind_cases (k : Int) : k = 1 ∨ k = 2 ∨ k = 3 ∨ k = 4 ∨ k = 5 ∨ k = 6 ∨ k = 7 ∨ (¬ k = 1 ∧ ¬ k = 2 ∧ ¬ k = 3 ∧ ¬ k = 4 ∧ ¬ k = 5 ∧ ¬ k = 6 ∧ ¬ k = 7) := by omega

theorem k_other {k : Int} (h : ¬ k = 1 ∧ ¬ k = 2 ∧ ¬ k = 3 ∧ ¬ k = 4 ∧ ¬ k = 5 ∧ ¬ k = 6 ∧ ¬ k = 7) : kSize k = 0 ∧ kLow k = 0 ∧ kHigh k = 0 := by
  obtain ⟨h1, h2, h3, h4, h5, h6, h7⟩ := h
  simp [kSize, kLow, kHigh, h1, h2, h3, h4, h5, h6, h7]

theorem k_bounds (k : Int) : 0 ≤ kSize k ∧ kSize k ≤ 4 ∧ -2147483648 ≤ kLow k ∧ kLow k ≤ 0 ∧ 0 ≤ kHigh k ∧ kHigh k ≤ 4294967295 := by
  rcases kind_cases k with rfl | rfl | rfl | rfl | rfl | rfl | rfl | h
  all_goals first | (simp [kSize, kLow, kHigh]; done) | (have := k_other h; omega)

/-- The span of a kind. -/
theorem span_any (k : Int) (w : World) :
    Calls Try.prog 87 #[.int .i64 k] w fun e w' => e = .returned (.agg #[.int .i64 (kSize k), .int .i64 (kLow k), .int .i64 (kHigh k)]) ∧ Below w.heap.size w w' := by
  rcases kind_cases k with rfl | rfl | rfl | rfl | rfl | rfl | rfl | h
  case inr.inr.inr.inr.inr.inr.inr =>
    rw [(k_other h).1, (k_other h).2.1, (k_other h).2.2]
    obtain ⟨h1, h2, h3, h4, h5, h6, h7⟩ := h
    go_enter Try.func87, Try.ntmps87
    go_wp2
    go_returns
    exact ⟨rfl, by go_grown⟩
  all_goals
    go_enter Try.func87, Try.ntmps87
    go_wp2
    go_returns
    exact ⟨rfl, by go_grown⟩

theorem span_f0 (a b c : Int) (w : World) : (Instr.field 143 (.agg #[.int .i64 a, .int .i64 b, .int .i64 c]) 0).run Try.prog w = .ok (.int .i64 a) w := by kernel_rfl
theorem span_f1 (a b c : Int) (w : World) : (Instr.field 143 (.agg #[.int .i64 a, .int .i64 b, .int .i64 c]) 1).run Try.prog w = .ok (.int .i64 b) w := by kernel_rfl
theorem span_f2 (a b c : Int) (w : World) : (Instr.field 143 (.agg #[.int .i64 a, .int .i64 b, .int .i64 c]) 2).run Try.prog w = .ok (.int .i64 c) w := by kernel_rfl

theorem size_any (k : Int) (w : World) : Calls Try.prog 75 #[.int .i64 k] w fun e w' => e = .returned (.int .i64 (kSize k)) ∧ Below w.heap.size w w' := by
  have hf := span_f0 (kSize k) (kLow k) (kHigh k)
  go_enter Try.func75, Try.ntmps75
  go_wp2_with (go_at_call 87; refine (span_any _ _).mono ?_; rintro e w1 ⟨rfl, hb⟩)
  go_ret
  exact ⟨rfl, hb⟩
theorem high_any (k : Int) (w : World) : Calls Try.prog 81 #[.int .i64 k] w fun e w' => e = .returned (.int .i64 (kHigh k)) ∧ Below w.heap.size w w' := by
  have hf := span_f2 (kSize k) (kLow k) (kHigh k)
  go_enter Try.func81, Try.ntmps81
  go_wp2_with (go_at_call 87; refine (span_any _ _).mono ?_; rintro e w1 ⟨rfl, hb⟩)
  go_ret
  exact ⟨rfl, hb⟩

/-- Which numbers are a kind's. -/
def fitB (k n : Int) : Bool := decide (0 < kSize k ∧ kLow k ≤ n ∧ n ≤ kHigh k)
theorem fit_no {k n : Int} (h : ¬ (0 < kSize k ∧ kLow k ≤ n ∧ n ≤ kHigh k)) : fitB k n = false := by simp [fitB]; omega
theorem fit_yes {k n : Int} (h : 0 < kSize k ∧ kLow k ≤ n ∧ n ≤ kHigh k) : fitB k n = true := by simpa [fitB] using h

theorem fits_any (k n : Int) (w : World) : Calls Try.prog 77 #[.int .i64 k, .int .i64 n] w fun e w' => e = .returned (.bool (fitB k n)) ∧ Below w.heap.size w w' := by
  by_cases h1 : 0 < kSize k
  · by_cases h2 : kLow k ≤ n
    · by_cases h3 : n ≤ kHigh k
      · rw [fit_yes ⟨h1, h2, h3⟩]
        go_enter Try.func77, Try.ntmps77
        go_wp2_with (go_at_call 87; refine (span_any _ _).mono ?_; rintro e w1 ⟨rfl, hb⟩)
        go_ret
        exact ⟨rfl, hb.alloc hb.size _⟩
      · rw [fit_no (by omega)]
        go_enter Try.func77, Try.ntmps77
        go_wp2_with (go_at_call 87; refine (span_any _ _).mono ?_; rintro e w1 ⟨rfl, hb⟩)
        go_ret
        exact ⟨ret_bool (decide_eq_false (by omega)), hb.alloc hb.size _⟩
    · rw [fit_no (by omega)]
      go_enter Try.func77, Try.ntmps77
      go_wp2_with (go_at_call 87; refine (span_any _ _).mono ?_; rintro e w1 ⟨rfl, hb⟩)
      go_ret
      exact ⟨rfl, hb.alloc hb.size _⟩
  · rw [fit_no (by omega)]
    go_enter Try.func77, Try.ntmps77
    go_wp2_with (go_at_call 87; refine (span_any _ _).mono ?_; rintro e w1 ⟨rfl, hb⟩)
    go_ret
    exact ⟨rfl, hb.alloc hb.size _⟩
end Go.Proofs.Ytacfpdjpionolaa