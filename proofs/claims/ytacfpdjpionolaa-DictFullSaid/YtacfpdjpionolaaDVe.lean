/- A number's bytes, and a spec's first value: what package value answers, and the document. -/
import Derived.Test.YtacfpdjpionolaaDVd
namespace Go.Proofs.Ytacfpdjpionolaa
open Go.RowKit
set_option linter.unusedSimpArgs false
set_option linter.unusedVariables false
def bytA (k a lo hi n : Int) : List Int := if mayB k a lo hi = true ∧ ¬ k = 8 ∧ lo ≤ n ∧ n ≤ hi then putL k n else []
def bytE (k a lo hi n : Int) : Int := if mayB k a lo hi = false ∨ k = 8 then 2 else if n < lo ∨ hi < n then 14 else 0
def BytPost (k a lo hi n : Int) (W : World) (e : Ending) (w' : World) : Prop :=
  ∃ A c, e = .returned (.tuple #[.slice A (bytA k a lo hi n).length c, .int .i64 (bytE k a lo hi n)]) ∧ Byt w' w'.heap.size A (bytA k a lo hi n).length c (bytA k a lo hi n) ∧ Below W.heap.size W w'
theorem byt_no {k a lo hi n x : Int} {W w' : World} (h : ¬ (mayB k a lo hi = true ∧ ¬ k = 8 ∧ lo ≤ n ∧ n ≤ hi)) (he : bytE k a lo hi n = x) (hb : Below W.heap.size W w') : BytPost k a lo hi n W (.returned (.tuple #[.slice none 0 0, .int .i64 x])) w' := by
  have e : bytA k a lo hi n = [] := if_neg h
  exact ⟨none, 0, by rw [e, he]; rfl, by rw [e]; exact Byt.nil_ _ _, hb⟩
theorem byt_fit {k a lo hi n : Int} (h : mayB k a lo hi = true) (h8 : ¬ k = 8) (h1 : lo ≤ n) (h2 : n ≤ hi) : fitB k n = true := by
  have hm := of_decide_eq_true h
  exact (fit_iff k n).2 (by omega)
theorem byt_yes {k a lo hi n : Int} (h : mayB k a lo hi = true) (h8 : ¬ k = 8) (h1 : lo ≤ n) (h2 : n ≤ hi) : putA k n = bytA k a lo hi n ∧ putE k n = bytE k a lo hi n := by
  have hf := byt_fit h h8 h1 h2
  unfold putA putE bytA bytE
  rw [if_pos hf, if_pos hf, if_pos ⟨h, h8, h1, h2⟩, if_neg (by simp [h, h8]), if_neg (by omega)]
  exact ⟨rfl, rfl⟩

theorem vbytes_any (k a lo hi n : Int) (w : World) : Calls Try.prog 62 #[.agg #[.int .i64 k, .int .i64 a, .int .i64 lo, .int .i64 hi], .int .i64 n] w (BytPost k a lo hi n w) := by
  have hm := fun w => may_any k a lo hi w
  have HX0 := Lib.hid (Bx4.start w k a lo hi 35)
  by_cases h0 : mayB k a lo hi = false
  · have HN := Lib.hid (fun (x : World) (hb : Below w.heap.size w x) => byt_no (n := n) (x := 2) (W := w) (w' := x) (by simp [h0] : ¬ (mayB k a lo hi = true ∧ ¬ k = 8 ∧ lo ≤ n ∧ n ≤ hi)) (if_pos (.inl h0)) hb)
    rw [h0] at hm
    have HM := Lib.hid hm
    clear hm h0
    go_enter Try.func62, Try.ntmps62
    go_wp2_with (go_at_call 55; refine (HM.out _).mono ?_; rintro e w1 ⟨rfl, hb1⟩; have HX1 := Lib.hid (HX0.out.step hb1); obtain ⟨c0, c1, c2, c3, -, -⟩ := HX1.out)
    go_ret2
    exact HN.out _ HX1.out.blw
  have h1 : mayB k a lo hi = true := by simpa using h0
  by_cases h8 : k = 8
  · have HN := Lib.hid (fun (x : World) (hb : Below w.heap.size w x) => byt_no (n := n) (x := 2) (W := w) (w' := x) (by simp [h8] : ¬ (mayB k a lo hi = true ∧ ¬ k = 8 ∧ lo ≤ n ∧ n ≤ hi)) (if_pos (.inr h8)) hb)
    subst h8
    rw [h1] at hm
    have HM := Lib.hid hm
    clear hm h0 h1
    go_enter Try.func62, Try.ntmps62
    go_wp2_with (go_at_call 55; refine (HM.out _).mono ?_; rintro e w1 ⟨rfl, hb1⟩; have HX1 := Lib.hid (HX0.out.step hb1); obtain ⟨c0, c1, c2, c3, -, -⟩ := HX1.out)
    go_ret2
    exact HN.out _ HX1.out.blw
  have hd8 : (k == 8) = false := by simp [h8]
  by_cases h2 : lo ≤ n ∧ n ≤ hi
  · obtain ⟨h2, h3⟩ := h2
    obtain ⟨e1, e2⟩ := byt_yes h1 h8 h2 h3
    have hp := fun w => put_any k n w
    unfold PutPost at hp
    rw [e1, e2] at hp
    unfold BytPost
    generalize bytA k a lo hi n = L at hp ⊢
    generalize bytE k a lo hi n = E at hp ⊢
    rw [h1] at hm
    have HM := Lib.hid hm
    have HP := Lib.hid hp
    clear hm h0 h1 hp e1 e2
    go_enter Try.func62, Try.ntmps62
    go_wp2_with (first | (go_at_call 55; refine (HM.out _).mono ?_; rintro e w1 ⟨rfl, hb1⟩; have HX1 := Lib.hid (HX0.out.step hb1); obtain ⟨c0, c1, c2, c3, -, -⟩ := HX1.out) | (go_at_call 80; refine (HP.out _).mono ?_; rintro e w4 ⟨A, c, rfl, hB, hb4⟩; have HX4 := Lib.hid (HX1.out.step hb4)))
    go_ret2
    exact ⟨_, _, rfl, hB, HX4.out.blw⟩
  · have HN := Lib.hid (fun (x : World) (hb : Below w.heap.size w x) => byt_no (n := n) (x := 14) (W := w) (w' := x) (by omega : ¬ (mayB k a lo hi = true ∧ ¬ k = 8 ∧ lo ≤ n ∧ n ≤ hi)) (by unfold bytE; rw [if_neg (by simp [h1, h8]), if_pos (by omega)]) hb)
    rw [h1] at hm
    have HM := Lib.hid hm
    have h3 : n < lo ∨ (¬ n < lo ∧ hi < n) := by omega
    clear hm h0 h1 h2
    rcases h3 with h3 | ⟨h3, h4⟩
    all_goals
      go_enter Try.func62, Try.ntmps62
      go_wp2_with (go_at_call 55; refine (HM.out _).mono ?_; rintro e w1 ⟨rfl, hb1⟩; have HX1 := Lib.hid (HX0.out.step hb1); obtain ⟨c0, c1, c2, c3, -, -⟩ := HX1.out)
      go_ret2
      exact HN.out _ HX1.out.blw

/-! ### The first value -/
def firN (lo hi : Int) : Int := if 0 < lo then lo else if hi < 0 then hi else 0
def firL (k a lo hi : Int) : List Int := if mayB k a lo hi = false then [] else if k = 8 then List.replicate lo.toNat 0 else putL k (firN lo hi)
theorem firN_in {lo hi : Int} (h : lo ≤ hi) : lo ≤ firN lo hi ∧ firN lo hi ≤ hi := by
  unfold firN
  split
  · omega
  · split <;> omega
def FirPost (k a lo hi : Int) (W : World) (e : Ending) (w' : World) : Prop :=
  ∃ A c, e = .returned (.slice A (firL k a lo hi).length c) ∧ Byt w' w'.heap.size A (firL k a lo hi).length c (firL k a lo hi) ∧ Below W.heap.size W w'
theorem make_row (n : Nat) (hn : n ≤ 281474976710656) (w : World) : (Instr.makeSlice 36 (.int .i64 (n : Int)) (.int .i64 (n : Int))).run Try.prog w = .ok (.slice (some ⟨w.heap.size, 0, none⟩) n n) (w.alloc (.cells (madeCells #[.int .u8 0] n) 5)) :=
  run_make_row' _ _ _ _ Try.underlying36 byte_info rfl .i64 .i64 n (by omega) (by omega) w
theorem made_zero (n : Nat) : madeCells #[Value.int .u8 0] n = ((List.replicate n (0 : Int)).map (Value.int .u8)).toArray := by
  apply Array.ext'
  have e : (fun x : Nat => [Value.int IntKind.u8 0][x % 1]?.getD default) = fun _ => Value.int IntKind.u8 0 := by funext x; simp [Nat.mod_one]
  simp [madeCells]
  rw [e, List.map_const', List.length_range]
theorem byt_zero (w : World) (n : Nat) (hn : n ≤ 64) : Byt (w.alloc (.cells (madeCells #[.int .u8 0] n) 5)) (w.alloc (.cells (madeCells #[.int .u8 0] n) 5)).heap.size (some ⟨w.heap.size, 0, none⟩) n n (List.replicate n 0) := by
  rw [made_zero]
  have h := Byt.new w 5 (List.replicate n (0 : Int)) (fun x hx => by rw [List.eq_of_mem_replicate hx]; omega) (by simp only [List.length_replicate, maxLen]; omega)
  rw [List.length_replicate] at h
  exact h.more (by simp)
theorem fir_text {k a lo hi : Int} {m : Nat} (h : mayB k a lo hi = true) (h8 : k = 8) (hm : lo = m) : firL k a lo hi = List.replicate m 0 ∧ m ≤ 64 := by
  have h' := of_decide_eq_true h
  unfold firL
  rw [if_neg (by simp [h]), if_pos h8]
  subst hm
  exact ⟨rfl, by omega⟩
theorem fir_num {k a lo hi : Int} (h : mayB k a lo hi = true) (h8 : ¬ k = 8) : firL k a lo hi = bytA k a lo hi (firN lo hi) ∧ putA k (firN lo hi) = firL k a lo hi ∧ lo ≤ firN lo hi ∧ firN lo hi ≤ hi := by
  have h' := of_decide_eq_true h
  obtain ⟨h1, h2⟩ := firN_in (lo := lo) (hi := hi) (by omega)
  have e : firL k a lo hi = bytA k a lo hi (firN lo hi) := by
    unfold firL bytA
    rw [if_neg (by simp [h]), if_neg h8, if_pos ⟨h, h8, h1, h2⟩]
  exact ⟨e, by rw [e]; exact (byt_yes h h8 h1 h2).1, h1, h2⟩

theorem vfirst_any (k a lo hi : Int) (w : World) : Calls Try.prog 56 #[.agg #[.int .i64 k, .int .i64 a, .int .i64 lo, .int .i64 hi]] w (FirPost k a lo hi w) := by
  have hm := fun w => may_any k a lo hi w
  have hy := fun n w => vbytes_any k a lo hi n w
  unfold BytPost at hy
  have HX0 := Lib.hid (Bx4.start w k a lo hi 35)
  unfold FirPost
  by_cases h0 : mayB k a lo hi = false
  · have e1 : firL k a lo hi = [] := if_pos h0
    rw [e1]
    have e2 : ∀ n, bytA k a lo hi n = [] := fun n => if_neg (by simp [h0])
    simp only [e2] at hy
    rw [h0] at hm
    have HM := Lib.hid hm
    have HY := Lib.hid hy
    clear hm hy e1 e2 h0
    go_enter Try.func56, Try.ntmps56
    go_wp2_with (first | (go_at_call 55; refine (HM.out _).mono ?_; rintro e w1 ⟨rfl, hb1⟩; have HX1 := Lib.hid (HX0.out.step hb1); obtain ⟨c0, c1, c2, c3, -, -⟩ := HX1.out) | (go_at_call 62; refine (HY.out _ _).mono ?_; rintro e w4 ⟨A, c, rfl, hB, hb4⟩; have HX4 := Lib.hid (HX1.out.step hb4)))
    all_goals
      go_ret
      exact ⟨_, _, rfl, hB, HX4.out.blw⟩
  have h1 : mayB k a lo hi = true := by simpa using h0
  by_cases h8 : k = 8
  · have h' := of_decide_eq_true h1
    obtain ⟨m, rfl⟩ := Int.eq_ofNat_of_zero_le (show 0 ≤ lo by omega)
    obtain ⟨e1, hm64⟩ := fir_text h1 h8 rfl
    rw [e1, List.length_replicate]
    rw [h1] at hm
    have HM := Lib.hid hm
    have hmk := make_row m (by omega)
    have HZ := Lib.hid (fun w => byt_zero w m hm64)
    clear hm hy e1 h0 h1 h'
    subst h8
    go_enter Try.func56, Try.ntmps56
    go_wp2_with (go_at_call 55; refine (HM.out _).mono ?_; rintro e w1 ⟨rfl, hb1⟩; have HX1 := Lib.hid (HX0.out.step hb1); obtain ⟨c0, c1, c2, c3, -, -⟩ := HX1.out)
    go_ret
    exact ⟨_, _, rfl, HZ.out _, HX1.out.blw.alloc HX1.out.blw.size _⟩
  · have hd8 : (k == 8) = false := by simp [h8]
    obtain ⟨e1, -, h2, h3⟩ := fir_num h1 h8
    have hy' := hy (firN lo hi)
    rw [← e1] at hy'
    rw [h1] at hm
    have HM := Lib.hid hm
    have h' : lo ≤ hi := by have := of_decide_eq_true h1; omega
    generalize bytE k a lo hi (firN lo hi) = E at hy'
    generalize firL k a lo hi = L at hy' ⊢
    have hyn : ∀ n, n = firN lo hi → ∀ w, Calls Try.prog 62 #[.agg #[.int .i64 k, .int .i64 a, .int .i64 lo, .int .i64 hi], .int .i64 n] w fun e w' => ∃ A c, e = .returned (.tuple #[.slice A L.length c, .int .i64 E]) ∧ Byt w' w'.heap.size A L.length c L ∧ Below w.heap.size w w' := fun n e w => by subst e; exact hy' w
    have HY := Lib.hid hyn
    clear hm hy e1 h0 h1 h2 h3 hy' hyn
    go_enter Try.func56, Try.ntmps56
    go_wp2_with (first | (go_at_call 55; refine (HM.out _).mono ?_; rintro e w1 ⟨rfl, hb1⟩; have HX1 := Lib.hid (HX0.out.step hb1); obtain ⟨c0, c1, c2, c3, -, -⟩ := HX1.out) | (go_at_call 62; refine (HY.out _ (by unfold firN; repeat' split <;> omega) _).mono ?_; rintro e w4 ⟨A, c, rfl, hB, hb4⟩; have HX4 := Lib.hid (HX1.out.step hb4)))
    all_goals
      go_ret
      exact ⟨_, _, rfl, hB, HX4.out.blw⟩
end Go.Proofs.Ytacfpdjpionolaa