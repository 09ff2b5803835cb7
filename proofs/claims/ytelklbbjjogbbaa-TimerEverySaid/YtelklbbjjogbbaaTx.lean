/- The document's Every. -/
import Derived.Test.YtelklbbjjogbbaaTw
import Derived.LoopN
namespace Go.Proofs.Ytelklbbjjogbbaa
open Go.RowKit
set_option linter.unusedSimpArgs false
set_option linter.unusedVariables false

set_option maxRecDepth 100000 in
set_option maxHeartbeats 2000000 in
theorem ref_every (w : World) (f p n : Int) (N : Nat) (r : Int) (b : Bool) (hg : Good f p n) (hN : N ≤ 5001)
    (hi : ∀ i : Nat, i < N → f + i * p ≤ n) (hlast : n < f + N * p) (hr : f + N * p ≤ 2147483647 ∧ r = f + N * p ∧ b = true ∨ 2147483647 < f + N * p ∧ r = 0 ∧ b = false) :
    Calls Try.prog 24 #[.int .i64 f, .int .i64 p, .int .i64 n, .int .i64 5002] w fun e w' => e = .returned (.tuple #[.int .i64 r, .bool b]) ∧ w' = w := by
  obtain ⟨⟨hf0, hf1⟩, ⟨hp0, hp1⟩, hn0, hn1⟩ := hg
  have HI := Lib.hid hi
  have HR := Lib.hid hr
  have HL := Lib.hid hlast
  clear hi hr hlast
  go_enter Try.func24, Try.ntmps24
  go_wp2_with fail
  go_loop [10, 11] (fun x i => ∃ (k : Nat) (X : Int), k ≤ N ∧ i = .int .i64 k ∧ x = .int .i64 X ∧ Hid (X = f + k * p)) (fun _ i => N - (intOf i).toNat)
  case atStart => exact ⟨0, f, Nat.zero_le _, rfl, rfl, Lib.hid (by simp)⟩
  case round =>
    obtain ⟨k, X, hk, rfl, rfl, HX⟩ := hrel
    have hk2 : (k : Int) ≤ 5002 := by omega
    by_cases hlt : k < N
    · have hx : X ≤ n := by rw [HX.out]; exact HI.out k hlt
      have hx0 : 0 ≤ X := by rw [HX.out]; have : 0 ≤ (k : Int) * p := Int.mul_nonneg (by omega) (by omega); omega
      have hx1 : X ≤ 2147483647 := by omega
      have hw : IntKind.i64.wrap (X + p) = X + p := IntWalk.i64_in _ (by omega)
      have hw2 : wrap64 (X + p) = X + p := by unfold wrap64; omega
      have HX2 : Hid (X + p = f + ((k + 1 : Nat) : Int) * p) := Lib.hid (by rw [HX.out]; push_cast; rw [Int.add_mul, Int.one_mul]; omega)
      go_wp2_with fail
      go_round
      case rel => exact ⟨k + 1, X + p, by omega, by go_num, by first | rfl | rw [hw2], HX2⟩
      case measure => simp [intOf]; omega
    · obtain rfl : k = N := by omega
      have hx : n < X := by rw [HX.out]; exact HL.out
      rcases HR.out with ⟨h1, h2, h3⟩ | ⟨h1, h2, h3⟩
      · have hx1 : X ≤ 2147483647 := by rw [HX.out]; exact h1
        have HR2 : Hid (r = X ∧ b = true) := Lib.hid ⟨by rw [HX.out]; exact h2, h3⟩
        clear h1 h2 h3
        go_wp2_with fail
        go_ret2
        exact ⟨by rw [HR2.out.1, HR2.out.2]; rfl, rfl⟩
      · have hx1 : 2147483647 < X := by rw [HX.out]; exact h1
        have HR2 : Hid (r = 0 ∧ b = false) := Lib.hid ⟨h2, h3⟩
        clear h1 h2 h3
        go_wp2_with fail
        go_ret2
        exact ⟨by rw [HR2.out.1, HR2.out.2]; rfl, rfl⟩
end Go.Proofs.Ytelklbbjjogbbaa
