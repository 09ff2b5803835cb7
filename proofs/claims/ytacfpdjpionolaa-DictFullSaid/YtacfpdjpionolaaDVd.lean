/- The document's May, Fits and Num of a spec: the same. -/
import Derived.Test.YtacfpdjpionolaaDVc
namespace Go.Proofs.Ytacfpdjpionolaa
open Go.RowKit
set_option linter.unusedSimpArgs false
set_option linter.unusedVariables false
theorem rmay_any (k a lo hi : Int) (w : World) : Calls Try.prog 52 #[.agg #[.int .i64 k, .int .i64 a, .int .i64 lo, .int .i64 hi]] w fun e w' => e = .returned (.bool (mayB k a lo hi)) ∧ Below w.heap.size w w' := by
  have HX0 := Lib.hid (Bx4.start w k a lo hi 35)
  have HS := Lib.hid (fun w => shape_any k w)
  have HB : Hid (∀ b, b = mayB k a lo hi → Ending.returned (.bool b) = .returned (.bool (mayB k a lo hi))) := Lib.hid fun b h => by rw [h]
  by_cases h8 : k = 8
  · subst h8
    go_enter Try.func52, Try.ntmps52
    go_wp2_with (go_at_call 53; refine (HS.out _).mono ?_; rintro e w1 ⟨rfl, rfl⟩)
    all_goals
      go_ret
      refine ⟨HB.out _ ?_, HX0.out.blw⟩
      first
        | exact (may_no (by omega)).symm
        | exact (may_yes (by omega)).symm
        | (unfold mayB; exact decide_eq_decide.2 (by omega))
  · have hd8 : (k == 8) = false := by simp [h8]
    go_enter Try.func52, Try.ntmps52
    go_wp2_with (go_at_call 53; refine (HS.out _).mono ?_; rintro e w1 ⟨rfl, rfl⟩)
    all_goals
      go_ret
      refine ⟨HB.out _ ?_, HX0.out.blw⟩
      first
        | exact (may_no (by omega)).symm
        | exact (may_yes (by omega)).symm
        | (unfold mayB; exact decide_eq_decide.2 (by omega))

theorem rfits_any (k a lo hi : Int) (w : World) (A : Option Addr) (n c : Nat) (l : List Int) (h : Byt w w.heap.size A n c l) : Calls Try.prog 23 #[.agg #[.int .i64 k, .int .i64 a, .int .i64 lo, .int .i64 hi], .slice A n c] w fun e w' => e = .returned (.int .i64 (fitsA k a lo hi l)) ∧ Below w.heap.size w w' := by
  have hm := fun w => rmay_any k a lo hi w
  have hl := h.len
  have hx := byt_max h
  have HX0 := Lib.hid (Bx4.start w k a lo hi 35)
  by_cases h0 : mayB k a lo hi = false
  · rw [h0] at hm
    have e : fitsA k a lo hi l = 134217728 := if_pos h0
    rw [e]
    have HM := Lib.hid hm
    clear hm e h0 h hl hx
    go_enter Try.func23, Try.ntmps23
    go_wp2_with (go_at_call 52; refine (HM.out _).mono ?_; rintro e w1 ⟨rfl, hb1⟩; have HX1 := Lib.hid (HX0.out.step hb1); obtain ⟨c0, c1, c2, c3, -, -⟩ := HX1.out)
    go_ret
    exact ⟨rfl, HX1.out.blw⟩
  have h1 : mayB k a lo hi = true := by simpa using h0
  rw [h1] at hm
  have HM := Lib.hid hm
  have HS := Lib.hid (fun w => shape_any k w)
  have HMY : Hid (1 ≤ a ∧ a ≤ 4 ∧ lo ≤ hi ∧ ((k = 8 ∧ 0 ≤ lo ∧ hi ≤ 64) ∨ (¬ k = 8 ∧ 0 < kSize k ∧ kLow k ≤ lo ∧ hi ≤ kHigh k))) := Lib.hid (of_decide_eq_true h1)
  have hg := fun (w' : World) (hb : Below w.heap.size w w') => rget_any k w' A n c l (h.low hb)
  unfold GetPost at hg
  have hF : fitsA k a lo hi l = if k = 8 then lenA n lo hi else if ¬ lenA n (kSize k) (kSize k) = 0 then lenA n (kSize k) (kSize k) else if ¬ getE k l = 0 then 101253168 else if hi < getN k l then 101253169 else if getN k l < lo then 101253170 else 0 := by unfold fitsA; rw [if_neg h0, hl]
  rw [hF]
  clear hF h1 h0 hm
  generalize getE k l = E at hg ⊢
  generalize getN k l = N at hg ⊢
  have HG := Lib.hid hg
  have HR : Hid (∀ x y : Int, x = y → Ending.returned (.int .i64 x) = .returned (.int .i64 y)) := Lib.hid fun x y h => by rw [h]
  clear hg h hl
  by_cases h8 : k = 8
  · subst h8
    rw [if_pos rfl]
    clear HG
    obtain ⟨-, -, m1, m2⟩ := HMY.out
    have m3 : 0 ≤ lo ∧ hi ≤ 64 := by omega
    obtain ⟨m3, m4⟩ := m3
    clear m2
    go_enter Try.func23, Try.ntmps23
    go_wp2_with (first | (go_at_call 52; refine (HM.out _).mono ?_; rintro e w1 ⟨rfl, hb1⟩; have HX1 := Lib.hid (HX0.out.step hb1); obtain ⟨c0, c1, c2, c3, -, -⟩ := HX1.out) | (go_at_call 53; refine (HS.out _).mono ?_; rintro e w1 ⟨rfl, rfl⟩))
    all_goals
      go_ret
      refine ⟨HR.out _ _ ?_, HX1.out.blw⟩
      unfold lenA
      repeat (first | rfl | (rw [if_pos (by omega)]) | (rw [if_neg (by omega)]))
  · rw [if_neg h8]
    have hd8 : (k == 8) = false := by simp [h8]
    have hs : 0 < kSize k := by have := HMY.out; omega
    generalize kSize k = S at *
    generalize kLow k = L1 at *
    generalize kHigh k = H1 at *
    have hL : lenA n S S = if (n : Int) < S then 101122067 else if S < (n : Int) then 101122066 else 0 := rfl
    rw [hL]
    clear hL HMY
    by_cases hE : E = 0
    · subst hE
      go_enter Try.func23, Try.ntmps23
      go_wp2_with (first | (go_at_call 52; refine (HM.out _).mono ?_; rintro e w1 ⟨rfl, hb1⟩; have HX1 := Lib.hid (HX0.out.step hb1); obtain ⟨c0, c1, c2, c3, -, -⟩ := HX1.out) | (go_at_call 53; refine (HS.out _).mono ?_; rintro e w1 ⟨rfl, rfl⟩) | (go_at_call 54; refine (HG.out _ HX1.out.blw).mono ?_; rintro e w4 ⟨rfl, hb4⟩; have HX4 := Lib.hid (HX1.out.step hb4); obtain ⟨c0, c1, c2, c3, -, -⟩ := HX4.out))
      all_goals
        go_ret
        refine ⟨HR.out _ _ ?_, by first | exact HX4.out.blw | exact HX1.out.blw⟩
        repeat (first | rfl | omega | (rw [if_pos (by omega)]) | (rw [if_neg (by omega)]))
    · have hdE : (E != 0) = true := by simp [hE]
      go_enter Try.func23, Try.ntmps23
      go_wp2_with (first | (go_at_call 52; refine (HM.out _).mono ?_; rintro e w1 ⟨rfl, hb1⟩; have HX1 := Lib.hid (HX0.out.step hb1); obtain ⟨c0, c1, c2, c3, -, -⟩ := HX1.out) | (go_at_call 53; refine (HS.out _).mono ?_; rintro e w1 ⟨rfl, rfl⟩) | (go_at_call 54; refine (HG.out _ HX1.out.blw).mono ?_; rintro e w4 ⟨rfl, hb4⟩; have HX4 := Lib.hid (HX1.out.step hb4); obtain ⟨c0, c1, c2, c3, -, -⟩ := HX4.out))
      all_goals
        go_ret
        refine ⟨HR.out _ _ ?_, by first | exact HX4.out.blw | exact HX1.out.blw⟩
        repeat (first | rfl | omega | (rw [if_pos (by omega)]) | (rw [if_neg (by omega)]))

theorem num_parts (k a lo hi : Int) (l : List Int) : numN k a lo hi l = (if k = 8 ∨ ¬ fitsA k a lo hi l = 0 then 0 else getN k l) ∧ numB k a lo hi l = decide (¬ (k = 8 ∨ ¬ fitsA k a lo hi l = 0)) := by
  unfold numN numB
  by_cases h8 : k = 8
  · subst h8
    have h1 : getE 8 l = 2 := rfl
    have h2 : getN 8 l = 0 := rfl
    rw [h1, h2]
    simp
  · by_cases hF : fitsA k a lo hi l = 0
    · have hE : getE k l = 0 := by
        by_cases hE : getE k l = 0
        · exact hE
        · exfalso
          have h0 : ¬ mayB k a lo hi = false := fun e => by unfold fitsA at hF; rw [if_pos e] at hF; omega
          unfold fitsA at hF
          rw [if_neg h0, if_neg h8] at hF
          by_cases hl : lenA l.length (kSize k) (kSize k) = 0
          · rw [if_neg (by simp [hl]), if_pos hE] at hF; omega
          · rw [if_pos hl] at hF; exact hl hF
      simp [h8, hF, hE]
    · simp [h8, hF]
theorem rnum_any (k a lo hi : Int) (w : World) (A : Option Addr) (n c : Nat) (l : List Int) (h : Byt w w.heap.size A n c l) : Calls Try.prog 42 #[.agg #[.int .i64 k, .int .i64 a, .int .i64 lo, .int .i64 hi], .slice A n c] w fun e w' => e = .returned (.tuple #[.int .i64 (numN k a lo hi l), .bool (numB k a lo hi l)]) ∧ Below w.heap.size w w' := by
  have hf := fun (w' : World) (hb : Below w.heap.size w w') => rfits_any k a lo hi w' A n c l (h.low hb)
  have hg := fun (w' : World) (hb : Below w.heap.size w w') => rget_any k w' A n c l (h.low hb)
  unfold GetPost at hg
  have HX0 := Lib.hid (Bx4.start w k a lo hi 35)
  have HG := Lib.hid hg
  obtain ⟨e1, e2⟩ := num_parts k a lo hi l
  rw [e1, e2]
  clear e1 e2
  generalize fitsA k a lo hi l = F at hf ⊢
  have HF := Lib.hid hf
  generalize getE k l = E at HG ⊢
  generalize getN k l = N at HG ⊢
  clear h hf hg
  by_cases h8 : k = 8
  · subst h8
    rw [if_pos (.inl rfl), decide_eq_false (by simp)]
    go_enter Try.func42, Try.ntmps42
    go_wp2_with fail
    go_ret2
    exact ⟨rfl, HX0.out.blw⟩
  have hd8 : (k == 8) = false := by simp [h8]
  by_cases h0 : F = 0
  · subst h0
    rw [if_neg (by simp [h8]), decide_eq_true (by simp [h8])]
    go_enter Try.func42, Try.ntmps42
    go_wp2_with (first | (go_at_call 23; refine (HF.out _ HX0.out.blw).mono ?_; rintro e w1 ⟨rfl, hb1⟩; have HX1 := Lib.hid (HX0.out.step hb1); obtain ⟨c0, c1, c2, c3, -, -⟩ := HX1.out) | (go_at_call 54; refine (HG.out _ HX1.out.blw).mono ?_; rintro e w4 ⟨rfl, hb4⟩; have HX4 := Lib.hid (HX1.out.step hb4)))
    go_ret2
    exact ⟨rfl, HX4.out.blw⟩
  · rw [if_pos (.inr h0), decide_eq_false (by simp [h0])]
    have hd : (F != 0) = true := by simp [h0]
    clear h0
    go_enter Try.func42, Try.ntmps42
    go_wp2_with (go_at_call 23; refine (HF.out _ HX0.out.blw).mono ?_; rintro e w1 ⟨rfl, hb1⟩; have HX1 := Lib.hid (HX0.out.step hb1); obtain ⟨c0, c1, c2, c3, -, -⟩ := HX1.out)
    go_ret2
    exact ⟨rfl, HX1.out.blw⟩
end Go.Proofs.Ytacfpdjpionolaa