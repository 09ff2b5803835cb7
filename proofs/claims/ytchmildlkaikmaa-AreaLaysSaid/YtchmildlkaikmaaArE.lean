/- slices.Repeat of one row. -/
import Derived.Test.YtchmildlkaikmaaArD
namespace Go.Proofs.Ytchmildlkaikmaa
open Go.RowKit
set_option linter.unusedSimpArgs false
set_option linter.unusedVariables false
theorem mul64_any (n : Int) (hn : n = 8 ∨ n = 4) (w : World) : Calls Try.prog 105 #[.int .u64 1, .int .u64 n] w fun e w' => e = .returned (.tuple #[.int .u64 0, .int .u64 n]) ∧ w' = w := by
  rcases hn with rfl | rfl
  all_goals
    go_enter Try.func105, Try.ntmps105
    go_wp2
    go_returns
    exact ⟨rfl, rfl⟩
theorem mul_any (n : Int) (hn : n = 8 ∨ n = 4) (w : World) : Calls Try.prog 102 #[.int .u64 1, .int .u64 n] w fun e w' => e = .returned (.tuple #[.int .u64 0, .int .u64 n]) ∧ w' = w := by
  go_enter Try.func102, Try.ntmps102
  go_wp2_with fail
  refine (mul64_any n hn _).mono ?_
  rintro e w1 ⟨rfl, rfl⟩
  go_wp2_with fail
  go_returns
  exact ⟨rfl, rfl⟩
end Go.Proofs.Ytchmildlkaikmaa
