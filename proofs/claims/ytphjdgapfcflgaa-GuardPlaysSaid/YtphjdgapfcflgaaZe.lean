/- The walk of GuardLate. -/
import Derived.Test.YtphjdgapfcflgaaZd
import Derived.Deep.LoopGhost
namespace Go.Proofs.Ytphjdgapfcflgaa
open Go.RowKit
set_option linter.unusedSimpArgs false
set_option linter.unusedVariables false

theorem rc_time4 {A B W F n : Int} (h0 : 0 ≤ W) (h : W + A < n) : rcE A B W F n = 4 := by
  unfold rcE
  rw [if_neg (show ¬ W < 0 by omega), if_pos (show W < n - A by omega)]
theorem rc_zero {A B W F n : Int} (h0 : 0 ≤ W) (h : n ≤ W + A) (h2 : F < 0 ∨ n ≤ F + B) : rcE A B W F n = 0 := by
  unfold rcE
  rw [if_neg (show ¬ W < 0 by omega), if_neg (show ¬ W < n - A by omega), if_neg (show ¬ (0 ≤ F ∧ F < n - B) by omega)]
theorem rc_gap5 {A B W F n : Int} (h0 : 0 ≤ W) (h : n ≤ W + A) (hF : 0 ≤ F) (h2 : F + B < n) : rcE A B W F n = 5 := by
  unfold rcE
  rw [if_neg (show ¬ W < 0 by omega), if_neg (show ¬ W < n - A by omega), if_pos (show 0 ≤ F ∧ F < n - B by omega)]
set_option maxRecDepth 100000 in
set_option maxHeartbeats 4000000 in
theorem late_walk (time gap W first : Int) (w : World) (h1 : 0 ≤ time ∧ time ≤ 255) (h2 : 0 ≤ gap ∧ gap ≤ 255) (h3 : 0 ≤ W ∧ W ≤ 65535) (h4 : 0 ≤ first ∧ first ≤ 255) :
    Calls Try.prog 5 #[.int .u8 time, .int .u8 gap, .int .u16 W, .int .u8 first] w fun e w' => e = .returned (.bool true) ∧ Below w.heap.size w w' := by
  have c1 : IntKind.i64.wrap time = time := IntWalk.i64_in _ (by omega)
  have c2 : IntKind.i64.wrap gap = gap := IntWalk.i64_in _ (by omega)
  have c3 : IntKind.i64.wrap W = W := IntWalk.i64_in _ (by omega)
  have c4 : IntKind.i64.wrap first = first := IntWalk.i64_in _ (by omega)
  obtain ⟨t1, ht1⟩ : ∃ t, time.tmod 200 = t := ⟨_, rfl⟩
  have hb1 : 0 ≤ t1 ∧ t1 ≤ 199 := by rw [← ht1, Int.tmod_eq_emod_of_nonneg h1.1]; omega
  have c5 : IntKind.i64.wrap t1 = t1 := IntWalk.i64_in _ (by omega)
  obtain ⟨AA, hAA⟩ : ∃ t, 1 + t1 = t := ⟨_, rfl⟩
  have c6 : IntKind.i64.wrap (1 + t1) = AA := by rw [hAA]; exact IntWalk.i64_in _ (by omega)
  obtain ⟨t2, ht2⟩ : ∃ t, gap.tmod 200 = t := ⟨_, rfl⟩
  have hb2 : 0 ≤ t2 ∧ t2 ≤ 199 := by rw [← ht2, Int.tmod_eq_emod_of_nonneg h2.1]; omega
  have c7 : IntKind.i64.wrap t2 = t2 := IntWalk.i64_in _ (by omega)
  obtain ⟨BB, hBB⟩ : ∃ t, 1 + t2 = t := ⟨_, rfl⟩
  have c8 : IntKind.i64.wrap (1 + t2) = BB := by rw [hBB]; exact IntWalk.i64_in _ (by omega)
  have hA1 : 1 ≤ AA := by omega
  have hA2 : AA ≤ 200 := by omega
  have hB1 : 1 ≤ BB := by omega
  have hB2 : BB ≤ 200 := by omega
  have hW0 : 0 ≤ W := h3.1
  have hW9 : W ≤ 65535 := h3.2
  obtain ⟨t3, ht3⟩ : ∃ t, first.tmod (AA + 1) = t := ⟨_, rfl⟩
  have hb3 : 0 ≤ t3 ∧ t3 ≤ AA := by
    rw [← ht3, Int.tmod_eq_emod_of_nonneg h4.1]
    have q1 := Int.emod_nonneg first (show AA + 1 ≠ 0 by omega)
    have q2 := Int.emod_lt_of_pos first (show 0 < AA + 1 by omega)
    omega
  have c9 : IntKind.i64.wrap (AA + 1) = AA + 1 := IntWalk.i64_in _ (by omega)
  have c10 : IntKind.i64.wrap t3 = t3 := IntWalk.i64_in _ (by omega)
  have tz : ¬ AA + 1 = 0 := by omega
  obtain ⟨AT, hAT⟩ : ∃ t, W + t3 = t := ⟨_, rfl⟩
  have c11 : IntKind.i64.wrap (W + t3) = AT := by rw [hAT]; exact IntWalk.i64_in _ (by omega)
  have hAT0 : 0 ≤ AT := by omega
  have hAT9 : AT ≤ W + AA := by omega
  have c12 : IntKind.i64.wrap (AT + BB) = AT + BB := IntWalk.i64_in _ (by omega)
  have c13 : IntKind.i64.wrap (AT + BB + 1) = AT + BB + 1 := IntWalk.i64_in _ (by omega)
  have c14 : IntKind.i64.wrap (W + AA) = W + AA := IntWalk.i64_in _ (by omega)
  have c15 : IntKind.i64.wrap (W + AA + 1) = W + AA + 1 := IntWalk.i64_in _ (by omega)
  clear h1 h2 h3 h4 hb1 hb2 hb3 hAA hBB hAT
  have HN := Lib.hid (newT AA BB w ⟨hA1, by omega⟩ ⟨hB1, by omega⟩)
  go_enter Try.func5, Try.ntmps5
  go_wp2_with (first
    | (go_at_call 7; refine (HN.out).mono ?_; rintro e w1 ⟨g, hg, rfl, x1, b1⟩; have HX1 := Lib.hid x1; have HB1 := Lib.hid b1; have HG := Lib.hid hg; clear x1 b1 hg)
    | (go_at_call 14; refine (wakeT W HX1.out (.inr rfl) hW0 (by omega)).mono ?_; rintro e w2 ⟨rfl, x2, o2⟩; have HX2 := Lib.hid (show GdT w2 g AA BB W (-1) by rw [show wkS (-1) W = W from rfl] at x2; exact x2); have HB2 := Lib.hid (HB1.out.trans (o2.from_ HG.out)); clear x2 o2))
  clear HN HX1 HB1 c1 c2 c5 c6 c7 c8 ht1 ht2
  go_loopw [13] (fun i wr => ∃ j : Nat, (j : Int) ≤ AA + 1 ∧ i = .int .i64 j ∧ Hid (GdT wr g AA BB W (-1)) ∧ Hid (Below w.heap.size w wr)) (fun i _ => 300 - (intOf i).toNat)
  case atStart => exact ⟨0, by omega, rfl, HX2, HB2⟩
  case round =>
    clear HX2 HB2
    obtain ⟨j, hj, rfl, HX, HB⟩ := hrel
    by_cases hlt : (j : Int) ≤ AA
    · have e1 : IntKind.i64.wrap (W + (j : Int)) = W + (j : Int) := IntWalk.i64_in _ (by omega)
      have HR := Lib.hid (rc_zero (A := AA) (B := BB) (W := W) (F := -1) (n := W + (j : Int)) hW0 (by omega) (.inl (by omega)))
      go_wp2_with (go_at_call 16; refine (checkT (W + (j : Int)) HX.out (by omega)).mono ?_; rintro e w3 ⟨rfl, b3⟩; have HX3 := Lib.hid (HX.out.below b3); have HB3 := Lib.hid (kF b3 HB.out); clear b3; rw [HR.out])
      exact ⟨⟨j + 1, by omega, by go_num, HX3, HB3⟩, by simp [intOf]; omega⟩
    · have HR := Lib.hid (rc_time4 (A := AA) (B := BB) (W := W) (F := -1) (n := W + AA + 1) hW0 (by omega))
      go_wp2_with (first
        | (go_at_call 16; refine (checkT (W + AA + 1) HX.out (by omega)).mono ?_; rintro e w3 ⟨rfl, b3⟩; have HX3 := Lib.hid (HX.out.below b3); have HB3 := Lib.hid (kF b3 HB.out); clear b3; rw [HR.out])
        | (go_at_call 17; refine (forkT HX3.out).mono ?_; rintro e w4 ⟨q, hq, rfl, x4, b4⟩; have HX4 := Lib.hid x4; have HB4 := Lib.hid (kF b4 HB3.out); have HQ := Lib.hid (Nat.le_trans HB3.out.size hq); clear x4 b4 hq)
        | (go_at_call 9; refine (halfT AT HX4.out (.inl hW0) hAT0 (by omega)).mono ?_; rintro e w5 ⟨rfl, x5, o5⟩; have HX5 := Lib.hid (show GdT w5 q AA BB W AT by rw [show hfF W (-1) AT = AT from if_pos hW0] at x5; exact x5); have HB5 := Lib.hid (HB4.out.trans (o5.from_ HQ.out)); clear x5 o5))
      clear HX HB HX3 HB3 HX4 HB4 HR hj hlt c15 c9 c10 c11 ht3 tz
      go_loopw [16] (fun i wr => ∃ k : Nat, (k : Int) ≤ BB + 1 ∧ i = .int .i64 k ∧ Hid (GdT wr q AA BB W AT) ∧ Hid (Below w.heap.size w wr)) (fun i _ => 300 - (intOf i).toNat)
      case atStart => exact ⟨0, by omega, rfl, HX5, HB5⟩
      case round =>
      clear HX5 HB5
      obtain ⟨k, hk, rfl, HX, HB⟩ := hrel
      have e1 : IntKind.i64.wrap (AT + (k : Int)) = AT + (k : Int) := IntWalk.i64_in _ (by omega)
      by_cases hl1 : (k : Int) ≤ BB
      · by_cases hl2 : AT + (k : Int) ≤ W + AA
        · have HR := Lib.hid (rc_zero (A := AA) (B := BB) (W := W) (F := AT) (n := AT + (k : Int)) hW0 (by omega) (.inr (by omega)))
          go_wp2_with (go_at_call 16; refine (checkT (AT + (k : Int)) HX.out (by omega)).mono ?_; rintro e w6 ⟨rfl, b6⟩; have HX6 := Lib.hid (HX.out.below b6); have HB6 := Lib.hid (kF b6 HB.out); clear b6; rw [HR.out])
          exact ⟨⟨k + 1, by omega, by go_num, HX6, HB6⟩, by simp [intOf]; omega⟩
        · clear hk
          have HLV := Lib.hid (fun w => live28_any w)
          by_cases hz : W + AA < AT + BB + 1
          · go_wp2_with (go_at_call 13; refine (HLV.out _).mono ?_; rintro e w9 ⟨rfl, b9⟩; have HB9 := Lib.hid (kF b9 HB.out); clear b9)
            go_ret
            exact ⟨rfl, HB9.out⟩
          · have HR := Lib.hid (rc_gap5 (A := AA) (B := BB) (W := W) (F := AT) (n := AT + BB + 1) hW0 (by omega) hAT0 (by omega))
            go_wp2_with (first
              | (go_at_call 13; refine (HLV.out _).mono ?_; rintro e w9 ⟨rfl, b9⟩; have HB9 := Lib.hid (kF b9 HB.out); have HX9 := Lib.hid (HX.out.below b9); clear b9)
              | (go_at_call 16; refine (checkT (AT + BB + 1) HX9.out (by omega)).mono ?_; rintro e w10 ⟨rfl, b10⟩; have HB10 := Lib.hid (kF b10 HB9.out); clear b10; rw [HR.out]))
            go_ret
            exact ⟨rfl, HB10.out⟩
      · clear hk
        have HLV := Lib.hid (fun w => live28_any w)
        by_cases hz : W + AA < AT + BB + 1
        · go_wp2_with (go_at_call 13; refine (HLV.out _).mono ?_; rintro e w9 ⟨rfl, b9⟩; have HB9 := Lib.hid (kF b9 HB.out); clear b9)
          go_ret
          exact ⟨rfl, HB9.out⟩
        · have HR := Lib.hid (rc_gap5 (A := AA) (B := BB) (W := W) (F := AT) (n := AT + BB + 1) hW0 (by omega) hAT0 (by omega))
          go_wp2_with (first
            | (go_at_call 13; refine (HLV.out _).mono ?_; rintro e w9 ⟨rfl, b9⟩; have HB9 := Lib.hid (kF b9 HB.out); have HX9 := Lib.hid (HX.out.below b9); clear b9)
            | (go_at_call 16; refine (checkT (AT + BB + 1) HX9.out (by omega)).mono ?_; rintro e w10 ⟨rfl, b10⟩; have HB10 := Lib.hid (kF b10 HB9.out); clear b10; rw [HR.out]))
          go_ret
          exact ⟨rfl, HB10.out⟩
end Go.Proofs.Ytphjdgapfcflgaa
