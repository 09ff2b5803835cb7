/- Take of whatever lies; nil timers; what must be whatever is asked. -/
import Derived.Test.YthofimkjemhnoaaPBTt
namespace Go.Proofs.Ythofimkjemhnoaa
open Go.RowKit Go.Shelf
attribute [local go_sem] Oper.semAt_some
set_option linter.unusedSimpArgs false
set_option linter.unusedVariables false
theorem ptr_belowI (w : World) (p : Option Addr) (now : Int) : Below w.heap.size w ((w.alloc (.cells #[.pointer p] 62)).alloc (.cells #[.int .i64 now] 3)) := ((Below.refl _ _).alloc (Nat.le_refl _) _).alloc (by simp) _
theorem set_nil (w : World) (k at_ : Int) : Calls Try.prog 40 #[.pointer none, .int .i64 k, .int .i64 at_] w fun e w' => (∃ v, e = .returned v) ∧ w = w' := by
  go_enter Try.func40, Try.ntmps40
  go_wp2_with fail
  refine bodyPost_ret (results_none rfl _ _ _) rfl ?_
  exact ⟨⟨_, rfl⟩, rfl⟩
theorem when_nil (w : World) (k : Int) : Calls Try.prog 41 #[.pointer none, .int .i64 k] w fun e w' => e = .returned (.tuple #[.int .i64 0, .bool false]) ∧ w = w' := by
  go_enter Try.func41, Try.ntmps41
  go_wp2_with fail
  go_ret2
  exact ⟨rfl, rfl⟩
theorem stop_nil (w : World) (k : Int) : Calls Try.prog 39 #[.pointer none, .int .i64 k] w fun e w' => e = .returned (.bool false) ∧ w = w' := by
  go_enter Try.func39, Try.ntmps39
  go_wp2_with fail
  refine (when_nil _ _).mono ?_
  rintro e w1 ⟨rfl, rfl⟩
  go_wp2_with fail
  go_ret
  exact ⟨rfl, rfl⟩
theorem istick_yes (w : World) (n : Int) (h0 : 0 ≤ n) (h1 : n ≤ 2147483647) : Calls Try.prog 50 #[.int .i64 n] w fun e w' => e = .returned (.bool true) ∧ w = w' := by
  go_enter Try.func50, Try.ntmps50
  go_wp2_with fail
  go_ret
  exact ⟨rfl, rfl⟩
theorem every_235 (w : World) : Calls Try.prog 42 #[.int .i64 2, .int .i64 3, .int .i64 5] w fun e w' => e = .returned (.tuple #[.int .i64 8, .bool true]) ∧ w = w' := by
  go_enter Try.func42, Try.ntmps42
  go_wp2_with (go_at_call 50; refine (istick_yes _ _ (by decide) (by decide)).mono ?_; rintro e wq ⟨rfl, hwq⟩; subst hwq)
  go_ret2
  exact ⟨rfl, rfl⟩
end Go.Proofs.Ythofimkjemhnoaa