/- What package value answers, and the document's: the rights, the reasons, which specs may be. -/
import Derived.Test.YtacfpdjpionolaaDVRefC
namespace Go.Proofs.Ytacfpdjpionolaa
open Go.RowKit
set_option linter.unusedSimpArgs false
set_option linter.unusedVariables false
def readsI (a : Int) : Int := if a = 1 then 0 else if a = 2 then 100728833 else if a = 3 then 0 else if a = 4 then 0 else 100728832
def writesI (a : Int) : Int := if a = 1 then 100728834 else if a = 2 then 0 else if a = 3 then 0 else if a = 4 then 100728834 else 100728832
theorem acc_cases (a : Int) : a = 1 ∨ a = 2 ∨ a = 3 ∨ a = 4 ∨ (¬ a = 1 ∧ ¬ a = 2 ∧ ¬ a = 3 ∧ ¬ a = 4) := by omega
theorem acc_other {a : Int} (h : ¬ a = 1 ∧ ¬ a = 2 ∧ ¬ a = 3 ∧ ¬ a = 4) : readsI a = 100728832 ∧ writesI a = 100728832 := by
  obtain ⟨h1, h2, h3, h4⟩ := h
  simp [readsI, writesI, h1, h2, h3, h4]
theorem acc_is (a : Int) : (readsI a = 100728832 ↔ ¬ (1 ≤ a ∧ a ≤ 4)) := by
  rcases acc_cases a with rfl | rfl | rfl | rfl | h
  all_goals first | (simp [readsI]; done) | (rw [(acc_other h).1]; omega)

theorem reads_any (a : Int) (w : World) : Calls Try.prog 37 #[.int .i64 a] w fun e w' => e = .returned (.int .i64 (readsI a)) ∧ w = w' := by
  rcases acc_cases a with rfl | rfl | rfl | rfl | h
  case inr.inr.inr.inr =>
    rw [(acc_other h).1]
    obtain ⟨h1, h2, h3, h4⟩ := h
    go_enter Try.func37, Try.ntmps37
    go_wp2
    go_ret
    exact ⟨rfl, rfl⟩
  all_goals
    go_enter Try.func37, Try.ntmps37
    go_wp2
    go_ret
    exact ⟨rfl, rfl⟩
theorem writes_any (a : Int) (w : World) : Calls Try.prog 49 #[.int .i64 a] w fun e w' => e = .returned (.int .i64 (writesI a)) ∧ w = w' := by
  rcases acc_cases a with rfl | rfl | rfl | rfl | h
  case inr.inr.inr.inr =>
    rw [(acc_other h).2]
    obtain ⟨h1, h2, h3, h4⟩ := h
    go_enter Try.func49, Try.ntmps49
    go_wp2
    go_ret
    exact ⟨rfl, rfl⟩
  all_goals
    go_enter Try.func49, Try.ntmps49
    go_wp2
    go_ret
    exact ⟨rfl, rfl⟩
theorem acc_in (a : Int) : a < 0 ∨ 4 < a ∨ a = 0 ∨ a = 1 ∨ a = 2 ∨ a = 3 ∨ a = 4 := by omega
theorem rreads_any (a : Int) (w : World) : Calls Try.prog 39 #[.int .i64 a] w fun e w' => e = .returned (.int .i64 (readsI a)) ∧ Below w.heap.size w w' := by
  rcases acc_in a with h | h | rfl | rfl | rfl | rfl | rfl
  case inl => rw [(acc_other (a := a) (by omega)).1]; go_enter Try.func39, Try.ntmps39; go_wp2; go_ret; exact ⟨rfl, by go_grown⟩
  case inr.inl => rw [(acc_other (a := a) (by omega)).1]; go_enter Try.func39, Try.ntmps39; go_wp2; go_ret; exact ⟨rfl, by go_grown⟩
  all_goals
    go_enter Try.func39, Try.ntmps39
    go_wp2
    go_ret
    exact ⟨rfl, by go_grown⟩
theorem rwrites_any (a : Int) (w : World) : Calls Try.prog 64 #[.int .i64 a] w fun e w' => e = .returned (.int .i64 (writesI a)) ∧ Below w.heap.size w w' := by
  rcases acc_in a with h | h | rfl | rfl | rfl | rfl | rfl
  case inl => rw [(acc_other (a := a) (by omega)).2]; go_enter Try.func64, Try.ntmps64; go_wp2; go_ret; exact ⟨rfl, by go_grown⟩
  case inr.inl => rw [(acc_other (a := a) (by omega)).2]; go_enter Try.func64, Try.ntmps64; go_wp2; go_ret; exact ⟨rfl, by go_grown⟩
  all_goals
    go_enter Try.func64, Try.ntmps64
    go_wp2
    go_ret
    exact ⟨rfl, by go_grown⟩

/-- The reasons. -/
def reasL : List Int := [84082688, 84148224, 84148225, 84148226, 84148227, 84148228, 100728832, 100728833, 100728834, 100794368, 100925505, 100925506, 101122064, 101122066, 101122067, 101253137, 101253168, 101253169, 101253170, 134217728, 134217762]
/-- Which specs may be. -/
def mayB (k a lo hi : Int) : Bool := decide (1 ≤ a ∧ a ≤ 4 ∧ lo ≤ hi ∧ ((k = 8 ∧ 0 ≤ lo ∧ hi ≤ 64) ∨ (¬ k = 8 ∧ 0 < kSize k ∧ kLow k ≤ lo ∧ hi ≤ kHigh k)))
def specV (k a lo hi : Int) : Value := .agg #[.int .i64 k, .int .i64 a, .int .i64 lo, .int .i64 hi]
end Go.Proofs.Ytacfpdjpionolaa