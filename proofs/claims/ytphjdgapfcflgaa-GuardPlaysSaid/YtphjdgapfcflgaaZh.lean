/- The walk of GuardLeft. -/
import Derived.Test.YtphjdgapfcflgaaZf
namespace Go.Proofs.Ytphjdgapfcflgaa
open Go.RowKit
set_option linter.unusedSimpArgs false
set_option linter.unusedVariables false

/-- A tick up to N, or none. -/
def upT (x N : Int) : Prop := (0 ≤ x ∧ x ≤ N) ∨ x = -1
theorem upT.or {x N : Int} (h : upT x N) : 0 ≤ x ∨ x = -1 := by unfold upT at h; omega
theorem upT.le {x N M : Int} (h : upT x N) (hm : N ≤ M) : upT x M := by unfold upT at *; omega
theorem upT.wk {S N : Int} (h : upT S N) (h0 : 0 ≤ N) : upT (wkS S N) N := by unfold upT wkS at *; split <;> omega
theorem upT.hf {S F N : Int} (h : upT F N) (h0 : 0 ≤ N) : upT (hfF S F N) N := by unfold upT hfF at *; split <;> omega
theorem upT.ws {S N : Int} (h : upT S N) (h0 : 0 ≤ N) : upT (whS S N) N := by unfold upT whS at *; split <;> omega
theorem upT.wf {S F N : Int} (h : upT F N) : upT (whF S F) N := by unfold upT whF at *; split <;> omega
theorem upT.no {N : Int} : upT (-1) N := .inr rfl
theorem left_math {T G S F N : Int} (hT : 1 ≤ T) (hT9 : T ≤ 40) (hG : 1 ≤ G) (hG9 : G ≤ 40) (hS0 : 0 ≤ S) (hS9 : S ≤ N) (hF : upT F N) :
    (¬ rcE T G S F N = 0 ∧ lfE T G S F N = 0) ∨ (rcE T G S F N = 0 ∧ 0 ≤ lfE T G S F N ∧ lfE T G S F N ≤ 40 ∧ rcE T G S F (N + lfE T G S F N) = 0 ∧ ¬ rcE T G S F (N + lfE T G S F N + 1) = 0) := by
  unfold upT at hF
  by_cases h1 : S + T < N
  · exact .inl ⟨by rw [rc_time4 hS0 h1]; omega, by unfold lfE; (repeat' split) <;> omega⟩
  · by_cases h2 : 0 ≤ F ∧ F + G < N
    · exact .inl ⟨by rw [rc_gap5 hS0 (by omega) h2.1 h2.2]; omega, by unfold lfE; (repeat' split) <;> omega⟩
    · refine .inr ⟨rc_zero hS0 (by omega) (by omega), ?_⟩
      by_cases h3 : F < 0
      · have e : lfE T G S F N = S + T - N := by unfold lfE; rw [if_pos h3]; split <;> omega
        rw [e]
        exact ⟨by omega, by omega, rc_zero hS0 (by omega) (by omega), by rw [rc_time4 hS0 (by omega)]; omega⟩
      · by_cases h4 : F + G < S + T
        · have e : lfE T G S F N = F + G - N := by unfold lfE; rw [if_neg h3, if_pos h4]; split <;> omega
          rw [e]
          exact ⟨by omega, by omega, rc_zero hS0 (by omega) (by omega), by rw [rc_gap5 hS0 (by omega) (by omega) (by omega)]; omega⟩
        · have e : lfE T G S F N = S + T - N := by unfold lfE; rw [if_neg h3, if_neg h4]; split <;> omega
          rw [e]
          exact ⟨by omega, by omega, rc_zero hS0 (by omega) (by omega), by rw [rc_time4 hS0 (by omega)]; omega⟩
set_option maxRecDepth 100000 in
set_option maxHeartbeats 8000000 in
theorem left_walk (time gap : Int) (A : Option Addr) (n c : Nat) (fs : Nat → Int × Int) (w : World) (h1 : 0 ≤ time ∧ time ≤ 255) (h2 : 0 ≤ gap ∧ gap ≤ 255) (h : DesG w w.heap.size A n c fs) :
    Calls Try.prog 4 #[.int .u8 time, .int .u8 gap, .slice A n c] w fun e w' => e = .returned (.bool true) ∧ Below w.heap.size w w' := by
  have hcap := h.cap
  have hmax := h.max
  simp only [maxLen] at hmax
  obtain ⟨K, hKn, hK30, hK⟩ := upto_of n 40
  have HDS := Lib.hid h
  have HK := Lib.hid hK
  clear h hK
  have c1 : IntKind.i64.wrap time = time := IntWalk.i64_in _ (by omega)
  have c2 : IntKind.i64.wrap gap = gap := IntWalk.i64_in _ (by omega)
  obtain ⟨t1, ht1⟩ : ∃ t, time.tmod 40 = t := ⟨_, rfl⟩
  have hb1 : 0 ≤ t1 ∧ t1 ≤ 39 := by rw [← ht1, Int.tmod_eq_emod_of_nonneg h1.1]; omega
  have c5 : IntKind.i64.wrap t1 = t1 := IntWalk.i64_in _ (by omega)
  obtain ⟨AA, hAA⟩ : ∃ t, 1 + t1 = t := ⟨_, rfl⟩
  have c6 : IntKind.i64.wrap (1 + t1) = AA := by rw [hAA]; exact IntWalk.i64_in _ (by omega)
  obtain ⟨t2, ht2⟩ : ∃ t, gap.tmod 40 = t := ⟨_, rfl⟩
  have hb2 : 0 ≤ t2 ∧ t2 ≤ 39 := by rw [← ht2, Int.tmod_eq_emod_of_nonneg h2.1]; omega
  have c7 : IntKind.i64.wrap t2 = t2 := IntWalk.i64_in _ (by omega)
  obtain ⟨BB, hBB⟩ : ∃ t, 1 + t2 = t := ⟨_, rfl⟩
  have c8 : IntKind.i64.wrap (1 + t2) = BB := by rw [hBB]; exact IntWalk.i64_in _ (by omega)
  have hA1 : 1 ≤ AA := by omega
  have hA2 : AA ≤ 40 := by omega
  have hB1 : 1 ≤ BB := by omega
  have hB2 : BB ≤ 40 := by omega
  clear h1 h2 hb1 hb2 hAA hBB
  have HN := Lib.hid (newT AA BB w ⟨hA1, by omega⟩ ⟨hB1, by omega⟩)
  go_enter Try.func4, Try.ntmps4
  go_wp2_with (go_at_call 7; refine (HN.out).mono ?_; rintro e w1 ⟨g, hg, rfl, x1, b1⟩; have HX1 := Lib.hid x1; have HB1 := Lib.hid b1; have HG := Lib.hid hg; clear x1 b1 hg)
  clear HN c1 c2 c5 c6 c7 c8 ht1 ht2
  go_loopw [9, 10] (fun nw i wr => ∃ (j : Nat) (N S F : Int), j ≤ K ∧ nw = .int .i64 N ∧ i = .int .i64 j ∧ 0 ≤ N ∧ N ≤ 7 * (j : Int) ∧ Hid (upT S N) ∧ Hid (upT F N) ∧ Hid (GdT wr g AA BB S F) ∧ Hid (Below w.heap.size w wr)) (fun _ i _ => 50 - (intOf i).toNat)
  case atStart => exact ⟨0, 0, -1, -1, by omega, rfl, rfl, by omega, by omega, Lib.hid (.inr rfl), Lib.hid (.inr rfl), HX1, HB1⟩
  case round =>
    clear HX1 HB1
    obtain ⟨j, N0, S0, F0, hj, rfl, rfl, hN0, hN9, HS0, HF0, HX, HB⟩ := hrel
    by_cases hlt : j < K
    · have hlt' : j < n := by omega
      obtain ⟨b, off, rfl, hbb, hcl⟩ := HDS.out.cells (by omega)
      have hf := (hcl j hlt').below hbb HB.out
      generalize fs j = x at hf
      obtain ⟨u0, u1⟩ := x
      obtain ⟨k0, k1, hv0, hv1⟩ := hf
      simp only at k0 k1 hv0 hv1
      have hjn : (j : Int) < (n : Int) := by omega
      have hj40 : (j : Int) < 40 := by omega
      have d2 : IntKind.i64.wrap u1 = u1 := IntWalk.i64_in _ (by omega)
      obtain ⟨Y, hY⟩ : ∃ t, u1.tmod 8 = t := ⟨_, rfl⟩
      have hY0 : 0 ≤ Y ∧ Y ≤ 7 := by rw [← hY, Int.tmod_eq_emod_of_nonneg hv0]; omega
      have d3 : IntKind.i64.wrap Y = Y := IntWalk.i64_in _ (by omega)
      obtain ⟨N, hN⟩ : ∃ t, N0 + Y = t := ⟨_, rfl⟩
      have d4 : IntKind.i64.wrap (N0 + Y) = N := by rw [hN]; exact IntWalk.i64_in _ (by omega)
      have hM0 : 0 ≤ N := by omega
      have hM9 : N ≤ 7 * ((j : Int) + 1) := by omega
      have HS := Lib.hid (HS0.out.le (show N0 ≤ N by omega))
      have HF := Lib.hid (HF0.out.le (show N0 ≤ N by omega))
      have HOR := Lib.hid HS.out.or
      clear hcl hv0 hv1 hY0 hN HS0 HF0 hN0 hN9
      go_upto_block 2 with fail
      clear hY d2 d3 d4 k0 k1
      go_cut [] from 49 to 63 (fun wx => ∃ (S F : Int), Hid (upT S N) ∧ Hid (upT F N) ∧ Hid (GdT wx g AA BB S F) ∧ Hid (Below w.heap.size w wx))
      case first =>
        have hcs : u0 = 0 ∨ u0 = 2 ∨ u0 = 3 ∨ (¬ u0 = 0 ∧ ¬ u0 = 2 ∧ ¬ u0 = 3) := by omega
        rcases hcs with rfl | rfl | rfl | ⟨g0, g2, g3⟩
        · go_wp2_with (go_at_call 14; refine (wakeT N HX.out HOR.out hM0 (by omega)).mono ?_; rintro e w5 ⟨rfl, x5, o5⟩; have HX5 := Lib.hid x5; have HB5 := Lib.hid (HB.out.trans (o5.from_ HG.out)); clear x5 o5)
          go_meet
          exact ⟨_, _, Lib.hid (HS.out.wk hM0), HF, HX5, HB5⟩
        · go_wp2_with (go_at_call 9; refine (halfT N HX.out HOR.out hM0 (by omega)).mono ?_; rintro e w5 ⟨rfl, x5, o5⟩; have HX5 := Lib.hid x5; have HB5 := Lib.hid (HB.out.trans (o5.from_ HG.out)); clear x5 o5)
          go_meet
          exact ⟨_, _, HS, Lib.hid (HF.out.hf hM0), HX5, HB5⟩
        · go_wp2_with (go_at_call 10; refine (wholeT N HX.out HOR.out hM0 (by omega)).mono ?_; rintro e w5 ⟨rfl, x5, o5⟩; have HX5 := Lib.hid x5; have HB5 := Lib.hid (HB.out.trans (o5.from_ HG.out)); clear x5 o5)
          go_meet
          exact ⟨_, _, Lib.hid (HS.out.ws hM0), Lib.hid (HF.out.wf), HX5, HB5⟩
        · have g0 : (u0 == 0) = false := by simpa using g0
          have g2 : (u0 == 2) = false := by simpa using g2
          have g3 : (u0 == 3) = false := by simpa using g3
          go_wp2_with fail
          go_meet
          exact ⟨_, _, HS, HF, HX, HB⟩
      case rest =>
        clear HS HF HX HB HOR
        obtain ⟨S, F, HS, HF, HX, HB⟩ := hcut
        have HOR := Lib.hid HS.out.or
        by_cases hS : 0 ≤ S
        · have hS9 : S ≤ N := by have := HS.out; unfold upT at this; omega
          have HLT := Lib.hid (leftT N HX.out HOR.out hM0)
          rw [if_pos hS, decide_eq_true hS] at HLT
          have HAW := Lib.hid (fun (x : World) (hx : GdT x g AA BB S F) => awakeT hx HOR.out)
          simp only [decide_eq_true hS] at HAW
          rcases left_math hA1 hA2 hB1 hB2 hS hS9 HF.out with ⟨m1, m2⟩ | ⟨m1, m2, m3, m4, m5⟩
          · rw [m2] at HLT
            obtain ⟨V, hV⟩ : ∃ v, rcE AA BB S F N = v := ⟨_, rfl⟩
            rw [hV] at m1
            have m6 : (V == 0) = false := by simpa using m1
            have HV := Lib.hid hV
            clear hV m2 hS9 hS
            go_wp2_with (first
              | (go_at_call 12; refine (HLT.out).mono ?_; rintro e w6 ⟨rfl, b6⟩; have HX6 := Lib.hid (HX.out.below b6); have HB6 := Lib.hid (kF b6 HB.out); clear b6)
              | (go_at_call 15; refine (HAW.out _ HX6.out).mono ?_; rintro e w7 ⟨rfl, rfl⟩)
              | (go_at_call 16; refine (checkT N HX6.out (by omega)).mono ?_; rintro e w8 ⟨rfl, b8⟩; have HX8 := Lib.hid (HX6.out.below b8); have HB8 := Lib.hid (kF b8 HB6.out); clear b8; rw [HV.out]))
            exact ⟨⟨j + 1, N, S, F, by omega, rfl, by go_num, hM0, by omega, HS, HF, HX8, HB8⟩, by simp [intOf]; omega⟩
          · obtain ⟨L, hL⟩ : ∃ v, lfE AA BB S F N = v := ⟨_, rfl⟩
            rw [hL] at m2 m3 m4 m5 HLT
            obtain ⟨V, hV⟩ : ∃ v, rcE AA BB S F (N + L + 1) = v := ⟨_, rfl⟩
            rw [hV] at m5
            have m6 : (V == 0) = false := by simpa using m5
            have HV := Lib.hid hV
            have HM1 := Lib.hid m1
            have HM4 := Lib.hid m4
            have e1 : IntKind.i64.wrap (N + L) = N + L := IntWalk.i64_in _ (by omega)
            have e2 : IntKind.i64.wrap (N + L + 1) = N + L + 1 := IntWalk.i64_in _ (by omega)
            clear hV m1 m4 hL hS9 hS m5
            go_wp2_with (first
              | (go_at_call 12; refine (HLT.out).mono ?_; rintro e w6 ⟨rfl, b6⟩; have HX6 := Lib.hid (HX.out.below b6); have HB6 := Lib.hid (kF b6 HB.out); clear b6)
              | (go_at_call 15; refine (HAW.out _ HX6.out).mono ?_; rintro e w7 ⟨rfl, rfl⟩)
              | (go_at_call 16; (with_reducible refine (checkT N HX6.out ?hn).mono ?_); (case hn => omega); rintro e w8 ⟨rfl, b8⟩; have HX8 := Lib.hid (HX6.out.below b8); have HB8 := Lib.hid (kF b8 HB6.out); clear b8; rw [HM1.out])
              | (go_at_call 16; (with_reducible refine (checkT (N + L) HX8.out ?hn).mono ?_); (case hn => omega); rintro e w9 ⟨rfl, b9⟩; have HX9 := Lib.hid (HX8.out.below b9); have HB9 := Lib.hid (kF b9 HB8.out); clear b9; rw [HM4.out])
              | (go_at_call 16; (with_reducible refine (checkT (N + L + 1) HX9.out ?hn).mono ?_); (case hn => omega); rintro e w10 ⟨rfl, b10⟩; have HX10 := Lib.hid (HX9.out.below b10); have HB10 := Lib.hid (kF b10 HB9.out); clear b10; rw [HV.out]))
            exact ⟨⟨j + 1, N, S, F, by omega, rfl, by go_num, hM0, by omega, HS, HF, HX10, HB10⟩, by simp [intOf]; omega⟩
        · have HLT := Lib.hid (leftT N HX.out HOR.out hM0)
          rw [if_neg hS, decide_eq_false hS] at HLT
          have HAW := Lib.hid (fun (x : World) (hx : GdT x g AA BB S F) => awakeT hx HOR.out)
          simp only [decide_eq_false hS] at HAW
          clear hS
          go_wp2_with (first
            | (go_at_call 12; refine (HLT.out).mono ?_; rintro e w6 ⟨rfl, b6⟩; have HX6 := Lib.hid (HX.out.below b6); have HB6 := Lib.hid (kF b6 HB.out); clear b6)
            | (go_at_call 15; refine (HAW.out _ HX6.out).mono ?_; rintro e w7 ⟨rfl, rfl⟩))
          exact ⟨⟨j + 1, N, S, F, by omega, rfl, by go_num, hM0, by omega, HS, HF, HX6, HB6⟩, by simp [intOf]; omega⟩
    · obtain rfl : j = K := by omega
      have hcs : ((n : Int) ≤ (j : Int)) ∨ ((j : Int) < (n : Int) ∧ (40 : Int) ≤ (j : Int)) := by have := HK.out; omega
      have HLV := Lib.hid (fun w => live28_any w)
      rcases hcs with hcs | ⟨hcs, hcs2⟩
      all_goals
        go_wp2_with (go_at_call 13; refine (HLV.out _).mono ?_; rintro e w9 ⟨rfl, b9⟩; have HB9 := Lib.hid (kF b9 HB.out); clear b9)
        go_ret
        exact ⟨rfl, HB9.out⟩
end Go.Proofs.Ytphjdgapfcflgaa
