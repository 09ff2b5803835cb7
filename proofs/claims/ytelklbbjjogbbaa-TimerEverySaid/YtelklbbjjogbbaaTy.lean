/- TimerEvery: the next tick of a period. -/
import Derived.Test.YtelklbbjjogbbaaTx
import Derived.Test.YtelklbbjjogbbaaTu
namespace Go.Proofs.Ytelklbbjjogbbaa
open Go.RowKit
set_option linter.unusedSimpArgs false
set_option linter.unusedVariables false

theorem eb_a (w : World) (f p n : Int) (hev : ∀ w, Calls Try.prog 23 #[.int .i64 f, .int .i64 p, .int .i64 n] w fun e w' => e = .returned (.tuple #[.int .i64 0, .bool false]) ∧ w' = w) (h : f < 0) :
    Calls Try.prog 5 #[.int .i64 f, .int .i64 p, .int .i64 n] w fun e w' => e = .returned (.bool true) ∧ Below w.heap.size w w' := by
  go_enter Try.func5, Try.ntmps5
  go_wp2_with fail
  refine (hev _).mono ?_
  rintro e w1 ⟨rfl, hw⟩
  rw [hw]
  clear hw w1
  go_wp2_with (go_at_call 22; refine (live_any _).mono ?_; rintro e wq ⟨rfl, hbq⟩)
  go_ret
  exact ⟨rfl, hbq⟩
theorem eb_b (w : World) (f p n : Int) (hev : ∀ w, Calls Try.prog 23 #[.int .i64 f, .int .i64 p, .int .i64 n] w fun e w' => e = .returned (.tuple #[.int .i64 0, .bool false]) ∧ w' = w) (h0 : 0 ≤ f) (h : 2147483647 < f) :
    Calls Try.prog 5 #[.int .i64 f, .int .i64 p, .int .i64 n] w fun e w' => e = .returned (.bool true) ∧ Below w.heap.size w w' := by
  go_enter Try.func5, Try.ntmps5
  go_wp2_with fail
  refine (hev _).mono ?_
  rintro e w1 ⟨rfl, hw⟩
  rw [hw]
  clear hw w1
  go_wp2_with (go_at_call 22; refine (live_any _).mono ?_; rintro e wq ⟨rfl, hbq⟩)
  go_ret
  exact ⟨rfl, hbq⟩
theorem eb_c (w : World) (f p n : Int) (hev : ∀ w, Calls Try.prog 23 #[.int .i64 f, .int .i64 p, .int .i64 n] w fun e w' => e = .returned (.tuple #[.int .i64 0, .bool false]) ∧ w' = w) (h0 : 0 ≤ f) (h1 : f ≤ 2147483647) (h : p < 1) :
    Calls Try.prog 5 #[.int .i64 f, .int .i64 p, .int .i64 n] w fun e w' => e = .returned (.bool true) ∧ Below w.heap.size w w' := by
  go_enter Try.func5, Try.ntmps5
  go_wp2_with fail
  refine (hev _).mono ?_
  rintro e w1 ⟨rfl, hw⟩
  rw [hw]
  clear hw w1
  go_wp2_with (go_at_call 22; refine (live_any _).mono ?_; rintro e wq ⟨rfl, hbq⟩)
  go_ret
  exact ⟨rfl, hbq⟩
theorem eb_d (w : World) (f p n : Int) (hev : ∀ w, Calls Try.prog 23 #[.int .i64 f, .int .i64 p, .int .i64 n] w fun e w' => e = .returned (.tuple #[.int .i64 0, .bool false]) ∧ w' = w) (h0 : 0 ≤ f) (h1 : f ≤ 2147483647) (h2 : 1 ≤ p) (h : 2147483647 < p) :
    Calls Try.prog 5 #[.int .i64 f, .int .i64 p, .int .i64 n] w fun e w' => e = .returned (.bool true) ∧ Below w.heap.size w w' := by
  go_enter Try.func5, Try.ntmps5
  go_wp2_with fail
  refine (hev _).mono ?_
  rintro e w1 ⟨rfl, hw⟩
  rw [hw]
  clear hw w1
  go_wp2_with (go_at_call 22; refine (live_any _).mono ?_; rintro e wq ⟨rfl, hbq⟩)
  go_ret
  exact ⟨rfl, hbq⟩
theorem eb_e (w : World) (f p n : Int) (hev : ∀ w, Calls Try.prog 23 #[.int .i64 f, .int .i64 p, .int .i64 n] w fun e w' => e = .returned (.tuple #[.int .i64 0, .bool false]) ∧ w' = w) (h0 : 0 ≤ f) (h1 : f ≤ 2147483647) (h2 : 1 ≤ p) (h3 : p ≤ 2147483647) (h : n < 0) :
    Calls Try.prog 5 #[.int .i64 f, .int .i64 p, .int .i64 n] w fun e w' => e = .returned (.bool true) ∧ Below w.heap.size w w' := by
  go_enter Try.func5, Try.ntmps5
  go_wp2_with fail
  refine (hev _).mono ?_
  rintro e w1 ⟨rfl, hw⟩
  rw [hw]
  clear hw w1
  go_wp2_with (go_at_call 22; refine (live_any _).mono ?_; rintro e wq ⟨rfl, hbq⟩)
  go_ret
  exact ⟨rfl, hbq⟩
theorem eb_f (w : World) (f p n : Int) (hev : ∀ w, Calls Try.prog 23 #[.int .i64 f, .int .i64 p, .int .i64 n] w fun e w' => e = .returned (.tuple #[.int .i64 0, .bool false]) ∧ w' = w) (h0 : 0 ≤ f) (h1 : f ≤ 2147483647) (h2 : 1 ≤ p) (h3 : p ≤ 2147483647) (h4 : 0 ≤ n) (h : 2147483647 < n) :
    Calls Try.prog 5 #[.int .i64 f, .int .i64 p, .int .i64 n] w fun e w' => e = .returned (.bool true) ∧ Below w.heap.size w w' := by
  go_enter Try.func5, Try.ntmps5
  go_wp2_with fail
  refine (hev _).mono ?_
  rintro e w1 ⟨rfl, hw⟩
  rw [hw]
  clear hw w1
  go_wp2_with (go_at_call 22; refine (live_any _).mono ?_; rintro e wq ⟨rfl, hbq⟩)
  go_ret
  exact ⟨rfl, hbq⟩
theorem eg_A (w : World) (f p n : Int) (hf0 : 0 ≤ f) (hf1 : f ≤ 2147483647) (hp0 : 1 ≤ p) (hp1 : p ≤ 2147483647) (hn0 : 0 ≤ n) (hn1 : n ≤ 2147483647) (h : n < f)
    (hev : ∀ w, Calls Try.prog 23 #[.int .i64 f, .int .i64 p, .int .i64 n] w fun e w' => e = .returned (.tuple #[.int .i64 f, .bool true]) ∧ w' = w)
    (hrf : ∀ w, Calls Try.prog 24 #[.int .i64 f, .int .i64 p, .int .i64 n, .int .i64 5002] w fun e w' => e = .returned (.tuple #[.int .i64 f, .bool true]) ∧ w' = w) :
    Calls Try.prog 5 #[.int .i64 f, .int .i64 p, .int .i64 n] w fun e w' => e = .returned (.bool true) ∧ Below w.heap.size w w' := by
  have hne : p ≠ 0 := by omega
  have hne2 : (p == 0) = false := by simpa using hne
  have w5 : IntKind.i64.wrap (f - f) = 0 := by rw [Int.sub_self]; rfl
  have w6 : IntKind.i64.wrap ((0 : Int).tmod p) = 0 := by rw [Int.zero_tmod]; rfl
  go_enter Try.func5, Try.ntmps5
  go_wp2_with fail
  refine (hev _).mono ?_
  rintro e w1 ⟨rfl, hw⟩
  rw [hw]
  clear hw w1
  go_wp2_with fail
  refine (hrf _).mono ?_
  rintro e w1 ⟨rfl, hw⟩
  rw [hw]
  clear hw w1
  go_wp2_with (go_at_call 22; refine (live_any _).mono ?_; rintro e wq ⟨rfl, hbq⟩)
  go_ret
  exact ⟨rfl, hbq⟩
theorem eg_B0 (w : World) (f p n : Int) (hf0 : 0 ≤ f) (hf1 : f ≤ 2147483647) (hp0 : 1 ≤ p) (hp1 : p ≤ 2147483647) (hn0 : 0 ≤ n) (hn1 : n ≤ 2147483647) (h : f = n)
    (hev : ∀ w, Calls Try.prog 23 #[.int .i64 f, .int .i64 p, .int .i64 n] w fun e w' => e = .returned (.tuple #[.int .i64 0, .bool false]) ∧ w' = w)
    (hrf : ∀ w, Calls Try.prog 24 #[.int .i64 f, .int .i64 p, .int .i64 n, .int .i64 5002] w fun e w' => e = .returned (.tuple #[.int .i64 0, .bool false]) ∧ w' = w) :
    Calls Try.prog 5 #[.int .i64 f, .int .i64 p, .int .i64 n] w fun e w' => e = .returned (.bool true) ∧ Below w.heap.size w w' := by
  have hne : p ≠ 0 := by omega
  have hne2 : (p == 0) = false := by simpa using hne
  subst h
  go_enter Try.func5, Try.ntmps5
  go_wp2_with fail
  refine (hev _).mono ?_
  rintro e w1 ⟨rfl, hw⟩
  rw [hw]
  clear hw w1
  go_wp2_with fail
  refine (hrf _).mono ?_
  rintro e w1 ⟨rfl, hw⟩
  rw [hw]
  clear hw w1
  go_wp2_with (go_at_call 22; refine (live_any _).mono ?_; rintro e wq ⟨rfl, hbq⟩)
  go_ret
  exact ⟨rfl, hbq⟩
theorem eg_C0 (w : World) (f p n R : Int) (hf0 : 0 ≤ f) (hf1 : f ≤ 2147483647) (hp0 : 1 ≤ p) (hp1 : p ≤ 2147483647) (hn0 : 0 ≤ n) (hn1 : n ≤ 2147483647) (h : f = n) (hR : n < R) (hR1 : R ≤ 4294967294) (hRf : f ≤ R) (hRp : R - p ≤ n) (hm : (R - f).tmod p = 0) 
    (hev : ∀ w, Calls Try.prog 23 #[.int .i64 f, .int .i64 p, .int .i64 n] w fun e w' => e = .returned (.tuple #[.int .i64 R, .bool true]) ∧ w' = w)
    (hrf : ∀ w, Calls Try.prog 24 #[.int .i64 f, .int .i64 p, .int .i64 n, .int .i64 5002] w fun e w' => e = .returned (.tuple #[.int .i64 R, .bool true]) ∧ w' = w) :
    Calls Try.prog 5 #[.int .i64 f, .int .i64 p, .int .i64 n] w fun e w' => e = .returned (.bool true) ∧ Below w.heap.size w w' := by
  have hne : p ≠ 0 := by omega
  have hne2 : (p == 0) = false := by simpa using hne
  subst h
  have w5 : IntKind.i64.wrap (R - f) = R - f := IntWalk.i64_in _ (by omega)
  have w6 : IntKind.i64.wrap ((R - f).tmod p) = 0 := by rw [hm]; rfl
  have w7 : IntKind.i64.wrap (R - p) = R - p := IntWalk.i64_in _ (by omega)
  go_enter Try.func5, Try.ntmps5
  go_wp2_with fail
  refine (hev _).mono ?_
  rintro e w1 ⟨rfl, hw⟩
  rw [hw]
  clear hw w1
  go_wp2_with fail
  refine (hrf _).mono ?_
  rintro e w1 ⟨rfl, hw⟩
  rw [hw]
  clear hw w1
  go_wp2_with (go_at_call 22; refine (live_any _).mono ?_; rintro e wq ⟨rfl, hbq⟩)
  go_ret
  exact ⟨rfl, hbq⟩
theorem eg_B1 (w : World) (f p n q : Int) (hf0 : 0 ≤ f) (hf1 : f ≤ 2147483647) (hp0 : 1 ≤ p) (hp1 : p ≤ 2147483647) (hn0 : 0 ≤ n) (hn1 : n ≤ 2147483647) (h : f < n) (hq : (n - f).tdiv p = q) (hq0 : 0 ≤ q) (hq1 : q ≤ 2147483647) (hs : q ≤ 5000)
    (hev : ∀ w, Calls Try.prog 23 #[.int .i64 f, .int .i64 p, .int .i64 n] w fun e w' => e = .returned (.tuple #[.int .i64 0, .bool false]) ∧ w' = w)
    (hrf : ∀ w, Calls Try.prog 24 #[.int .i64 f, .int .i64 p, .int .i64 n, .int .i64 5002] w fun e w' => e = .returned (.tuple #[.int .i64 0, .bool false]) ∧ w' = w) :
    Calls Try.prog 5 #[.int .i64 f, .int .i64 p, .int .i64 n] w fun e w' => e = .returned (.bool true) ∧ Below w.heap.size w w' := by
  have hne : p ≠ 0 := by omega
  have hne2 : (p == 0) = false := by simpa using hne
  have w0 : IntKind.i64.wrap (n - f) = n - f := IntWalk.i64_in _ (by omega)
  have w1 : IntKind.i64.wrap ((n - f).tdiv p) = q := by rw [hq]; exact IntWalk.i64_in _ (by omega)
  go_enter Try.func5, Try.ntmps5
  go_wp2_with fail
  refine (hev _).mono ?_
  rintro e w1 ⟨rfl, hw⟩
  rw [hw]
  clear hw w1
  go_wp2_with fail
  refine (hrf _).mono ?_
  rintro e w1 ⟨rfl, hw⟩
  rw [hw]
  clear hw w1
  go_wp2_with (go_at_call 22; refine (live_any _).mono ?_; rintro e wq ⟨rfl, hbq⟩)
  go_ret
  exact ⟨rfl, hbq⟩
theorem eg_B2 (w : World) (f p n q : Int) (hf0 : 0 ≤ f) (hf1 : f ≤ 2147483647) (hp0 : 1 ≤ p) (hp1 : p ≤ 2147483647) (hn0 : 0 ≤ n) (hn1 : n ≤ 2147483647) (h : f < n) (hq : (n - f).tdiv p = q) (hq0 : 0 ≤ q) (hq1 : q ≤ 2147483647) (hs : 5000 < q)
    (hev : ∀ w, Calls Try.prog 23 #[.int .i64 f, .int .i64 p, .int .i64 n] w fun e w' => e = .returned (.tuple #[.int .i64 0, .bool false]) ∧ w' = w) :
    Calls Try.prog 5 #[.int .i64 f, .int .i64 p, .int .i64 n] w fun e w' => e = .returned (.bool true) ∧ Below w.heap.size w w' := by
  have hne : p ≠ 0 := by omega
  have hne2 : (p == 0) = false := by simpa using hne
  have w0 : IntKind.i64.wrap (n - f) = n - f := IntWalk.i64_in _ (by omega)
  have w1 : IntKind.i64.wrap ((n - f).tdiv p) = q := by rw [hq]; exact IntWalk.i64_in _ (by omega)
  go_enter Try.func5, Try.ntmps5
  go_wp2_with fail
  refine (hev _).mono ?_
  rintro e w1 ⟨rfl, hw⟩
  rw [hw]
  clear hw w1
  go_wp2_with (go_at_call 22; refine (live_any _).mono ?_; rintro e wq ⟨rfl, hbq⟩)
  go_ret
  exact ⟨rfl, hbq⟩
theorem eg_C1 (w : World) (f p n q R : Int) (hf0 : 0 ≤ f) (hf1 : f ≤ 2147483647) (hp0 : 1 ≤ p) (hp1 : p ≤ 2147483647) (hn0 : 0 ≤ n) (hn1 : n ≤ 2147483647) (h : f < n) (hq : (n - f).tdiv p = q) (hq0 : 0 ≤ q) (hq1 : q ≤ 2147483647) (hs : q ≤ 5000) (hR : n < R) (hR1 : R ≤ 4294967294) (hRf : f ≤ R) (hRp : R - p ≤ n) (hm : (R - f).tmod p = 0) 
    (hev : ∀ w, Calls Try.prog 23 #[.int .i64 f, .int .i64 p, .int .i64 n] w fun e w' => e = .returned (.tuple #[.int .i64 R, .bool true]) ∧ w' = w)
    (hrf : ∀ w, Calls Try.prog 24 #[.int .i64 f, .int .i64 p, .int .i64 n, .int .i64 5002] w fun e w' => e = .returned (.tuple #[.int .i64 R, .bool true]) ∧ w' = w) :
    Calls Try.prog 5 #[.int .i64 f, .int .i64 p, .int .i64 n] w fun e w' => e = .returned (.bool true) ∧ Below w.heap.size w w' := by
  have hne : p ≠ 0 := by omega
  have hne2 : (p == 0) = false := by simpa using hne
  have w0 : IntKind.i64.wrap (n - f) = n - f := IntWalk.i64_in _ (by omega)
  have w1 : IntKind.i64.wrap ((n - f).tdiv p) = q := by rw [hq]; exact IntWalk.i64_in _ (by omega)
  have w5 : IntKind.i64.wrap (R - f) = R - f := IntWalk.i64_in _ (by omega)
  have w6 : IntKind.i64.wrap ((R - f).tmod p) = 0 := by rw [hm]; rfl
  have w7 : IntKind.i64.wrap (R - p) = R - p := IntWalk.i64_in _ (by omega)
  go_enter Try.func5, Try.ntmps5
  go_wp2_with fail
  refine (hev _).mono ?_
  rintro e w1 ⟨rfl, hw⟩
  rw [hw]
  clear hw w1
  go_wp2_with fail
  refine (hrf _).mono ?_
  rintro e w1 ⟨rfl, hw⟩
  rw [hw]
  clear hw w1
  go_wp2_with (go_at_call 22; refine (live_any _).mono ?_; rintro e wq ⟨rfl, hbq⟩)
  go_ret
  exact ⟨rfl, hbq⟩
theorem eg_C2 (w : World) (f p n q R : Int) (hf0 : 0 ≤ f) (hf1 : f ≤ 2147483647) (hp0 : 1 ≤ p) (hp1 : p ≤ 2147483647) (hn0 : 0 ≤ n) (hn1 : n ≤ 2147483647) (h : f < n) (hq : (n - f).tdiv p = q) (hq0 : 0 ≤ q) (hq1 : q ≤ 2147483647) (hs : 5000 < q) (hR : n < R) (hR1 : R ≤ 4294967294) (hRf : f ≤ R) (hRp : R - p ≤ n) (hm : (R - f).tmod p = 0) 
    (hev : ∀ w, Calls Try.prog 23 #[.int .i64 f, .int .i64 p, .int .i64 n] w fun e w' => e = .returned (.tuple #[.int .i64 R, .bool true]) ∧ w' = w) :
    Calls Try.prog 5 #[.int .i64 f, .int .i64 p, .int .i64 n] w fun e w' => e = .returned (.bool true) ∧ Below w.heap.size w w' := by
  have hne : p ≠ 0 := by omega
  have hne2 : (p == 0) = false := by simpa using hne
  have w0 : IntKind.i64.wrap (n - f) = n - f := IntWalk.i64_in _ (by omega)
  have w1 : IntKind.i64.wrap ((n - f).tdiv p) = q := by rw [hq]; exact IntWalk.i64_in _ (by omega)
  have w5 : IntKind.i64.wrap (R - f) = R - f := IntWalk.i64_in _ (by omega)
  have w6 : IntKind.i64.wrap ((R - f).tmod p) = 0 := by rw [hm]; rfl
  have w7 : IntKind.i64.wrap (R - p) = R - p := IntWalk.i64_in _ (by omega)
  go_enter Try.func5, Try.ntmps5
  go_wp2_with fail
  refine (hev _).mono ?_
  rintro e w1 ⟨rfl, hw⟩
  rw [hw]
  clear hw w1
  go_wp2_with (go_at_call 22; refine (live_any _).mono ?_; rintro e wq ⟨rfl, hbq⟩)
  go_ret
  exact ⟨rfl, hbq⟩
theorem every_walk (w : World) (f p n : Int) :
    Calls Try.prog 5 #[.int .i64 f, .int .i64 p, .int .i64 n] w fun e w' => e = .returned (.bool true) ∧ Below w.heap.size w w' := by
  by_cases hg : Good f p n
  · obtain ⟨⟨hf0, hf1⟩, ⟨hp0, hp1⟩, hn0, hn1⟩ := id hg
    by_cases h : n < f
    · exact eg_A w f p n hf0 hf1 hp0 hp1 hn0 hn1 h (fun w => every_good w f p n 0 f true hg (.inl ⟨h, rfl, rfl⟩)) (fun w => ref_every w f p n 0 f true hg (by omega) (fun i hi => absurd hi (Nat.not_lt_zero _)) (by simpa using h) (.inl ⟨by simpa using hf1, by simp, rfl⟩))
    · have hpp : (0 : Int) < p := by omega
      obtain ⟨q, hq⟩ : ∃ q, q = (n - f) / p := ⟨_, rfl⟩
      obtain ⟨M, hM⟩ : ∃ M, M = (2147483647 - f) / p := ⟨_, rfl⟩
      have hq0 : 0 ≤ q := by rw [hq]; exact Int.ediv_nonneg (by omega) (by omega)
      have hqp : q * p ≤ n - f := by rw [hq]; exact Int.ediv_mul_le _ (by omega)
      have hqn : q ≤ n - f := by rw [hq]; exact Int.ediv_le_self _ (by omega)
      have hql : n - f < (q + 1) * p := by rw [hq]; exact Int.lt_ediv_add_one_mul_self _ hpp
      have hMp : M * p ≤ 2147483647 - f := by rw [hM]; exact Int.ediv_mul_le _ (by omega)
      have hMl : 2147483647 - f < (M + 1) * p := by rw [hM]; exact Int.lt_ediv_add_one_mul_self _ hpp
      have hqM : q ≤ M := by rw [hq, hM]; exact Int.ediv_le_ediv hpp (by omega)
      have e3 : (q + 1) * p = q * p + p := by rw [Int.add_mul, Int.one_mul]
      have htd : (n - f).tdiv p = q := by rw [hq]; exact Int.tdiv_eq_ediv_of_nonneg (by omega)
      have hN : (((q.toNat + 1 : Nat)) : Int) = q + 1 := by omega
      have hit : ∀ i : Nat, i < q.toNat + 1 → f + i * p ≤ n := fun i hi => by
        have : (i : Int) * p ≤ q * p := Int.mul_le_mul_of_nonneg_right (by omega) (by omega)
        omega
      have hbig : q ≤ 5000 → ∀ (r : Int) (b : Bool), (f + (q + 1) * p ≤ 2147483647 ∧ r = f + (q + 1) * p ∧ b = true ∨ 2147483647 < f + (q + 1) * p ∧ r = 0 ∧ b = false) → ∀ w, Calls Try.prog 24 #[.int .i64 f, .int .i64 p, .int .i64 n, .int .i64 5002] w fun e w' => e = .returned (.tuple #[.int .i64 r, .bool b]) ∧ w' = w :=
        fun hs r b hr w => ref_every w f p n (q.toNat + 1) r b hg (by omega) hit (by rw [hN]; omega) (by rw [hN]; exact hr)
      by_cases hl : q = M
      · have hev := fun w => every_good w f p n q 0 false hg (.inr ⟨by omega, hq, .inl ⟨by rw [← hM]; exact hl, rfl, rfl⟩⟩)
        have hr : f + (q + 1) * p ≤ 2147483647 ∧ (0 : Int) = f + (q + 1) * p ∧ false = true ∨ 2147483647 < f + (q + 1) * p ∧ (0 : Int) = 0 ∧ false = false := .inr ⟨by rw [hl]; omega, rfl, rfl⟩
        by_cases he : f = n
        · exact eg_B0 w f p n hf0 hf1 hp0 hp1 hn0 hn1 he hev (hbig (by omega) 0 false hr)
        · by_cases hs : q ≤ 5000
          · exact eg_B1 w f p n q hf0 hf1 hp0 hp1 hn0 hn1 (by omega) htd hq0 (by omega) hs hev (hbig hs 0 false hr)
          · exact eg_B2 w f p n q hf0 hf1 hp0 hp1 hn0 hn1 (by omega) htd hq0 (by omega) (by omega) hev
      · have hev := fun w => every_good w f p n q (f + (q + 1) * p) true hg (.inr ⟨by omega, hq, .inr ⟨by rw [← hM]; exact hl, rfl, rfl⟩⟩)
        have hle : (q + 1) * p ≤ M * p := Int.mul_le_mul_of_nonneg_right (by omega) (by omega)
        have hr : f + (q + 1) * p ≤ 2147483647 ∧ f + (q + 1) * p = f + (q + 1) * p ∧ true = true ∨ 2147483647 < f + (q + 1) * p ∧ f + (q + 1) * p = 0 ∧ true = false := .inl ⟨by omega, rfl, rfl⟩
        have hm : (f + (q + 1) * p - f).tmod p = 0 := by rw [show f + (q + 1) * p - f = (q + 1) * p by omega]; exact Int.mul_tmod_left _ _
        have hb := hbig
        generalize hR : f + (q + 1) * p = R at *
        have h1 : n < R := by omega
        have h2 : R ≤ 4294967294 := by omega
        have h3 : f ≤ R := by omega
        have h4 : R - p ≤ n := by omega
        by_cases he : f = n
        · exact eg_C0 w f p n R hf0 hf1 hp0 hp1 hn0 hn1 he h1 h2 h3 h4 hm hev (hb (by omega) R true (.inl ⟨by omega, rfl, rfl⟩))
        · by_cases hs : q ≤ 5000
          · exact eg_C1 w f p n q R hf0 hf1 hp0 hp1 hn0 hn1 (by omega) htd hq0 (by omega) hs h1 h2 h3 h4 hm hev (hb hs R true (.inl ⟨by omega, rfl, rfl⟩))
          · exact eg_C2 w f p n q R hf0 hf1 hp0 hp1 hn0 hn1 (by omega) htd hq0 (by omega) (by omega) h1 h2 h3 h4 hm hev
  · have hev := fun w => every_bad w f p n hg
    by_cases h0 : f < 0
    · exact eb_a w f p n hev h0
    by_cases h1 : 2147483647 < f
    · exact eb_b w f p n hev (by omega) h1
    by_cases h2 : p < 1
    · exact eb_c w f p n hev (by omega) (by omega) h2
    by_cases h3 : 2147483647 < p
    · exact eb_d w f p n hev (by omega) (by omega) (by omega) h3
    by_cases h4 : n < 0
    · exact eb_e w f p n hev (by omega) (by omega) (by omega) (by omega) h4
    by_cases h5 : 2147483647 < n
    · exact eb_f w f p n hev (by omega) (by omega) (by omega) (by omega) (by omega) h5
    exact absurd (show Good f p n from ⟨⟨by omega, by omega⟩, ⟨by omega, by omega⟩, by omega, by omega⟩) hg
end Go.Proofs.Ytelklbbjjogbbaa
