/- Every and isTick, and the document's Every. -/
import Derived.Test.YthofimkjemhnoaaPBTu
import Derived.LoopN
namespace Go.Proofs.Ythofimkjemhnoaa
open Go.RowKit
set_option linter.unusedSimpArgs false
set_option linter.unusedVariables false
theorem istick_ok (w : World) (n : Int) (h0 : 0 ≤ n) (h1 : n ≤ 2147483647) : Calls Try.prog 50 #[.int .i64 n] w fun e w' => e = .returned (.bool true) ∧ w' = w := by
  go_enter Try.func50, Try.ntmps50
  go_wp2_with fail
  go_ret
  exact ⟨rfl, rfl⟩
theorem istick_no (w : World) (n : Int) (h : ¬ (0 ≤ n ∧ n ≤ 2147483647)) : Calls Try.prog 50 #[.int .i64 n] w fun e w' => e = .returned (.bool false) ∧ w' = w := by
  by_cases h0 : 0 ≤ n
  · have h1 : 2147483647 < n := by omega
    have hd : decide (n ≤ 2147483647) = false := by simp; omega
    clear h
    go_enter Try.func50, Try.ntmps50
    go_wp2_with fail
    go_ret
    exact ⟨rfl, rfl⟩
  · have h1 : n < 0 := by omega
    clear h h0
    go_enter Try.func50, Try.ntmps50
    go_wp2_with fail
    go_ret
    exact ⟨rfl, rfl⟩
/-- What the answer is: the tick, and whether it is one. -/
def Good (f p n : Int) : Prop := (0 ≤ f ∧ f ≤ 2147483647) ∧ (1 ≤ p ∧ p ≤ 2147483647) ∧ 0 ≤ n ∧ n ≤ 2147483647
theorem every_bad (w : World) (f p n : Int) (hg : ¬ Good f p n) : Calls Try.prog 42 #[.int .i64 f, .int .i64 p, .int .i64 n] w fun e w' => e = .returned (.tuple #[.int .i64 0, .bool false]) ∧ w' = w := by
  by_cases hp : p < 1
  · clear hg
    go_enter Try.func42, Try.ntmps42
    go_wp2_with fail
    go_ret2
    exact ⟨rfl, rfl⟩
  have hp1 : 1 ≤ p := by omega
  by_cases hf : 0 ≤ f ∧ f ≤ 2147483647
  · by_cases hpt : 0 ≤ p ∧ p ≤ 2147483647
    · have hn : ¬ (0 ≤ n ∧ n ≤ 2147483647) := fun h => hg ⟨hf, ⟨hp1, hpt.2⟩, h⟩
      have H1 := Lib.hid (istick_ok w f hf.1 hf.2)
      have H2 := Lib.hid (istick_ok w p hpt.1 hpt.2)
      have H3 := Lib.hid (istick_no w n hn)
      clear hg hf hpt hn hp
      go_enter Try.func42, Try.ntmps42
      go_wp2_with fail
      refine H1.out.mono ?_
      rintro e wq ⟨rfl, hw⟩
      rw [hw]
      clear hw wq
      go_wp2_with fail
      refine H2.out.mono ?_
      rintro e wq ⟨rfl, hw⟩
      rw [hw]
      clear hw wq
      go_wp2_with fail
      refine H3.out.mono ?_
      rintro e wq ⟨rfl, hw⟩
      rw [hw]
      clear hw wq
      go_wp2_with fail
      go_ret2
      exact ⟨rfl, rfl⟩
    · have H1 := Lib.hid (istick_ok w f hf.1 hf.2)
      have H2 := Lib.hid (istick_no w p hpt)
      clear hg hf hpt hp
      go_enter Try.func42, Try.ntmps42
      go_wp2_with fail
      refine H1.out.mono ?_
      rintro e wq ⟨rfl, hw⟩
      rw [hw]
      clear hw wq
      go_wp2_with fail
      refine H2.out.mono ?_
      rintro e wq ⟨rfl, hw⟩
      rw [hw]
      clear hw wq
      go_wp2_with fail
      go_ret2
      exact ⟨rfl, rfl⟩
  · have H1 := Lib.hid (istick_no w f hf)
    clear hg hf hp
    go_enter Try.func42, Try.ntmps42
    go_wp2_with fail
    refine H1.out.mono ?_
    rintro e wq ⟨rfl, hw⟩
    rw [hw]
    clear hw wq
    go_wp2_with fail
    go_ret2
    exact ⟨rfl, rfl⟩
theorem every_good (w : World) (f p n q r : Int) (b : Bool) (hg : Good f p n)
    (hq : n < f ∧ r = f ∧ b = true ∨ f ≤ n ∧ q = (n - f) / p ∧ (q = (2147483647 - f) / p ∧ r = 0 ∧ b = false ∨ q ≠ (2147483647 - f) / p ∧ r = f + (q + 1) * p ∧ b = true)) :
    Calls Try.prog 42 #[.int .i64 f, .int .i64 p, .int .i64 n] w fun e w' => e = .returned (.tuple #[.int .i64 r, .bool b]) ∧ w' = w := by
  obtain ⟨⟨hf0, hf1⟩, ⟨hp0, hp1⟩, hn0, hn1⟩ := hg
  have H1 := Lib.hid (istick_ok w f hf0 hf1)
  have H2 := Lib.hid (istick_ok w p (by omega) hp1)
  have H3 := Lib.hid (istick_ok w n hn0 hn1)
  rcases hq with ⟨h, rfl, rfl⟩ | ⟨h, hq, hq2⟩
  · go_enter Try.func42, Try.ntmps42
    go_wp2_with fail
    refine H1.out.mono ?_
    rintro e wq ⟨rfl, hw⟩
    rw [hw]
    clear hw wq
    go_wp2_with fail
    refine H2.out.mono ?_
    rintro e wq ⟨rfl, hw⟩
    rw [hw]
    clear hw wq
    go_wp2_with fail
    refine H3.out.mono ?_
    rintro e wq ⟨rfl, hw⟩
    rw [hw]
    clear hw wq
    go_wp2_with fail
    go_ret2
    exact ⟨rfl, rfl⟩
  · have hpp : (0 : Int) < p := by omega
    have hq0 : 0 ≤ q := by rw [hq]; exact Int.ediv_nonneg (by omega) (by omega)
    have hqp : q * p ≤ n - f := by rw [hq]; exact Int.ediv_mul_le _ (by omega)
    have hqn : q ≤ n - f := by rw [hq]; exact Int.ediv_le_self _ (by omega)
    have hm0 : 0 ≤ (2147483647 - f) / p := Int.ediv_nonneg (by omega) (by omega)
    have hm1 : (2147483647 - f) / p ≤ 2147483647 - f := Int.ediv_le_self _ (by omega)
    have w0 : IntKind.i64.wrap (n - f) = n - f := IntWalk.i64_in _ (by omega)
    have w1 : IntKind.i64.wrap ((n - f).tdiv p) = q := by rw [Int.tdiv_eq_ediv_of_nonneg (by omega), ← hq]; exact IntWalk.i64_in _ (by omega)
    have w2 : IntKind.i64.wrap ((2147483647 - f).tdiv p) = (2147483647 - f) / p := by rw [Int.tdiv_eq_ediv_of_nonneg (by omega)]; exact IntWalk.i64_in _ (by omega)
    have e3 : (q + 1) * p = q * p + p := by rw [Int.add_mul, Int.one_mul]
    have hx0 : 0 ≤ q * p := Int.mul_nonneg hq0 (by omega)
    have w3 : IntKind.i64.wrap ((q + 1) * p) = (q + 1) * p := IntWalk.i64_in _ (by rw [e3]; omega)
    have w4 : IntKind.i64.wrap (f + (q + 1) * p) = f + (q + 1) * p := IntWalk.i64_in _ (by rw [e3]; omega)
    have x2 : wrap64 (q + 1) = q + 1 := by unfold wrap64; omega
    have x3 : wrap64 ((q + 1) * p) = (q + 1) * p := by rw [e3]; unfold wrap64; omega
    have x4 : wrap64 (f + (q + 1) * p) = f + (q + 1) * p := by rw [e3]; unfold wrap64; omega
    have X : Hid (wrap64 (f + wrap64 (wrap64 (q + 1) * p)) = f + (q + 1) * p) := Lib.hid (by rw [x2, x3, x4])
    clear x2 x3 x4
    have hne : p ≠ 0 := by omega
    have hne2 : (p == 0) = false := by simpa using hne
    have hlt : (n < f) = False := by simp; omega
    generalize (2147483647 - f) / p = M at *
    rcases hq2 with ⟨h2, rfl, rfl⟩ | ⟨h2, rfl, rfl⟩
    · have t2 : (q == M) = true := by simpa using h2
      clear e3 hx0 hm0 hm1 hqp hqn hq h2 w3 w4
      go_enter Try.func42, Try.ntmps42
      go_wp2_with fail
      refine H1.out.mono ?_
      rintro e wq ⟨rfl, hw⟩
      rw [hw]
      clear hw wq
      go_wp2_with fail
      refine H2.out.mono ?_
      rintro e wq ⟨rfl, hw⟩
      rw [hw]
      clear hw wq
      go_wp2_with fail
      refine H3.out.mono ?_
      rintro e wq ⟨rfl, hw⟩
      rw [hw]
      clear hw wq
      go_wp2_with fail
      go_ret2
      exact ⟨rfl, rfl⟩
    · have t2 : (q == M) = false := by simpa using h2
      clear e3 hx0 hm0 hm1 hqp hqn hq h2
      go_enter Try.func42, Try.ntmps42
      go_wp2_with fail
      refine H1.out.mono ?_
      rintro e wq ⟨rfl, hw⟩
      rw [hw]
      clear hw wq
      go_wp2_with fail
      refine H2.out.mono ?_
      rintro e wq ⟨rfl, hw⟩
      rw [hw]
      clear hw wq
      go_wp2_with fail
      refine H3.out.mono ?_
      rintro e wq ⟨rfl, hw⟩
      rw [hw]
      clear hw wq
      go_wp2_with fail
      go_ret2
      refine ⟨?_, rfl⟩
      show Ending.returned (.tuple #[.int .i64 (wrap64 (f + wrap64 (wrap64 (q + 1) * p))), .bool true]) = _
      rw [X.out]
end Go.Proofs.Ythofimkjemhnoaa