/- The walk of GuardWell. -/
import Derived.Test.YtphjdgapfcflgaaZf
namespace Go.Proofs.Ytphjdgapfcflgaa
open Go.RowKit
set_option linter.unusedSimpArgs false
set_option linter.unusedVariables false

set_option maxRecDepth 100000 in
set_option maxHeartbeats 8000000 in
theorem well_walk (time gap : Int) (A : Option Addr) (n c : Nat) (fs : Nat → Int × Int) (w : World) (h1 : 0 ≤ time ∧ time ≤ 255) (h2 : 0 ≤ gap ∧ gap ≤ 255) (h : TwsG w w.heap.size A n c fs) :
    Calls Try.prog 6 #[.int .u8 time, .int .u8 gap, .slice A n c] w fun e w' => e = .returned (.bool true) ∧ Below w.heap.size w w' := by
  have hcap := h.cap
  have hmax := h.max
  simp only [maxLen] at hmax
  obtain ⟨K, hKn, hK30, hK⟩ := upto_of n 30
  have HDS := Lib.hid h
  have HK := Lib.hid hK
  clear h hK
  have c1 : IntKind.i64.wrap time = time := IntWalk.i64_in _ (by omega)
  have c2 : IntKind.i64.wrap gap = gap := IntWalk.i64_in _ (by omega)
  obtain ⟨t1, ht1⟩ : ∃ t, time.tmod 60 = t := ⟨_, rfl⟩
  have hb1 : 0 ≤ t1 ∧ t1 ≤ 59 := by rw [← ht1, Int.tmod_eq_emod_of_nonneg h1.1]; omega
  have c5 : IntKind.i64.wrap t1 = t1 := IntWalk.i64_in _ (by omega)
  obtain ⟨AA, hAA⟩ : ∃ t, 1 + t1 = t := ⟨_, rfl⟩
  have c6 : IntKind.i64.wrap (1 + t1) = AA := by rw [hAA]; exact IntWalk.i64_in _ (by omega)
  obtain ⟨t2, ht2⟩ : ∃ t, gap.tmod 60 = t := ⟨_, rfl⟩
  have hb2 : 0 ≤ t2 ∧ t2 ≤ 59 := by rw [← ht2, Int.tmod_eq_emod_of_nonneg h2.1]; omega
  have c7 : IntKind.i64.wrap t2 = t2 := IntWalk.i64_in _ (by omega)
  obtain ⟨BB, hBB⟩ : ∃ t, 1 + t2 = t := ⟨_, rfl⟩
  have c8 : IntKind.i64.wrap (1 + t2) = BB := by rw [hBB]; exact IntWalk.i64_in _ (by omega)
  have hA1 : 1 ≤ AA := by omega
  have hA2 : AA ≤ 60 := by omega
  have hB1 : 1 ≤ BB := by omega
  have hB2 : BB ≤ 60 := by omega
  obtain ⟨MM, hMM⟩ : ∃ t, (if BB < AA then BB else AA) = t := ⟨_, rfl⟩
  have hM : 1 ≤ MM ∧ MM ≤ AA ∧ MM ≤ BB := by rw [← hMM]; split <;> omega
  obtain ⟨hM0, hM1, hM2⟩ := hM
  have c9 : IntKind.i64.wrap (MM + 1) = MM + 1 := IntWalk.i64_in _ (by omega)
  have tz : ¬ MM + 1 = 0 := by omega
  clear h1 h2 hb1 hb2 hAA hBB
  have HN := Lib.hid (newT AA BB w ⟨hA1, by omega⟩ ⟨hB1, by omega⟩)
  go_enter Try.func6, Try.ntmps6
  go_wp2_with (first
    | (go_at_call 7; refine (HN.out).mono ?_; rintro e w1 ⟨g, hg, rfl, x1, b1⟩; have HX1 := Lib.hid x1; have HB1 := Lib.hid b1; have HG := Lib.hid hg; clear x1 b1 hg)
    | (go_at_call 14; refine (wakeT 3 HX1.out (.inr rfl) (by omega) (by omega)).mono ?_; rintro e w2 ⟨rfl, x2, o2⟩; have HX2 := Lib.hid (show GdT w2 g AA BB 3 (-1) by rw [show wkS (-1) 3 = 3 from rfl] at x2; exact x2); have HB2 := Lib.hid (HB1.out.trans (o2.from_ HG.out)); clear x2 o2))
  clear HN HX1 HB1 c1 c2 c5 c6 c7 c8 ht1 ht2
  go_loopw [11, 12] (fun nw i wr => ∃ (j : Nat) (N : Int), j ≤ K ∧ nw = .int .i64 N ∧ i = .int .i64 j ∧ 0 ≤ N ∧ N ≤ 3 + 120 * (j : Int) ∧ Hid (GdT wr g AA BB N (-1)) ∧ Hid (Below w.heap.size w wr)) (fun _ i _ => 40 - (intOf i).toNat)
  case atStart => exact ⟨0, 3, by omega, rfl, rfl, by omega, by omega, HX2, HB2⟩
  case round =>
    clear HX2 HB2
    obtain ⟨j, N, hj, rfl, rfl, hN0, hN9, HX, HB⟩ := hrel
    by_cases hlt : j < K
    · have hlt' : j < n := by omega
      obtain ⟨b, off, rfl, hbb, hcl⟩ := HDS.out.cells (by omega)
      have hf := (hcl j hlt').below hbb HB.out
      generalize fs j = x at hf
      obtain ⟨u0, u1⟩ := x
      obtain ⟨k0, k1, hu0, hu1, hv0, hv1⟩ := hf
      simp only at k0 k1 hu0 hu1 hv0 hv1
      have hjn : (j : Int) < (n : Int) := by omega
      have hj30 : (j : Int) < 30 := by omega
      have d1 : IntKind.i64.wrap u0 = u0 := IntWalk.i64_in _ (by omega)
      have d2 : IntKind.i64.wrap u1 = u1 := IntWalk.i64_in _ (by omega)
      obtain ⟨Y, hY⟩ : ∃ t, u1.tmod (MM + 1) = t := ⟨_, rfl⟩
      have hY0 : 0 ≤ Y ∧ Y ≤ MM := by
        rw [← hY, Int.tmod_eq_emod_of_nonneg hv0]
        have q1 := Int.emod_nonneg u1 (show MM + 1 ≠ 0 by omega)
        have q2 := Int.emod_lt_of_pos u1 (show 0 < MM + 1 by omega)
        omega
      have d3 : IntKind.i64.wrap Y = Y := IntWalk.i64_in _ (by omega)
      obtain ⟨R, hR⟩ : ∃ t, AA - Y = t := ⟨_, rfl⟩
      have d4 : IntKind.i64.wrap (AA - Y) = R := by rw [hR]; exact IntWalk.i64_in _ (by omega)
      have d5 : IntKind.i64.wrap (R + 1) = R + 1 := IntWalk.i64_in _ (by omega)
      have tz2 : ¬ R + 1 = 0 := by omega
      obtain ⟨X, hX⟩ : ∃ t, u0.tmod (R + 1) = t := ⟨_, rfl⟩
      have hX0 : 0 ≤ X ∧ X ≤ R := by
        rw [← hX, Int.tmod_eq_emod_of_nonneg hu0]
        have q1 := Int.emod_nonneg u0 (show R + 1 ≠ 0 by omega)
        have q2 := Int.emod_lt_of_pos u0 (show 0 < R + 1 by omega)
        omega
      have d6 : IntKind.i64.wrap X = X := IntWalk.i64_in _ (by omega)
      obtain ⟨Z, hZ⟩ : ∃ t, X + Y = t := ⟨_, rfl⟩
      have d7 : IntKind.i64.wrap (X + Y) = Z := by rw [hZ]; exact IntWalk.i64_in _ (by omega)
      have d8 : IntKind.i64.wrap (N + Z) = N + Z := IntWalk.i64_in _ (by omega)
      have hZ0 : 0 ≤ Z ∧ Z ≤ AA ∧ X ≤ Z ∧ Z ≤ X + BB := by omega
      obtain ⟨hZ0, hZ1, hZ2, hZ3⟩ := hZ0
      obtain ⟨hX0, _⟩ := hX0
      clear hcl hu0 hu1 hv0 hv1 hY0 hR hZ
      go_wp2_with fail
      clear hY hX d1 d2 d3 d4 d5 d6 tz2 k0 k1
      go_loopw [15] (fun k2 wr => ∃ (k : Nat) (F : Int), (k : Int) ≤ Z + 1 ∧ k2 = .int .i64 k ∧ (((k : Int) ≤ X ∧ F = -1) ∨ (X < (k : Int) ∧ F = N + X)) ∧ Hid (GdT wr g AA BB N F) ∧ Hid (Below w.heap.size w wr)) (fun k _ => 130 - (intOf k).toNat)
      case atStart => exact ⟨0, -1, by omega, rfl, .inl ⟨by omega, rfl⟩, HX, HB⟩
      case round =>
      clear HX HB
      obtain ⟨k, F, hk, rfl, hkF, HX, HB⟩ := hrel
      by_cases hkz : (k : Int) ≤ Z
      · have f1 : IntKind.i64.wrap (N + (k : Int)) = N + (k : Int) := IntWalk.i64_in _ (by omega)
        by_cases hkx : (k : Int) = X
        · have HR := Lib.hid (rc_zero (A := AA) (B := BB) (W := N) (F := N + (k : Int)) (n := N + (k : Int)) hN0 (by omega) (.inr (by omega)))
          have hke : ((k : Int) == X) = true := by simpa using hkx
          have HKX := Lib.hid hkx
          clear hkF hkx
          go_wp2_with (first
            | (go_at_call 9; refine (halfT (N + (k : Int)) HX.out (.inl hN0) (by omega) (by omega)).mono ?_; rintro e w5 ⟨rfl, x5, o5⟩; have HX5 := Lib.hid (show GdT w5 g AA BB N (N + (k : Int)) by rw [show hfF N F (N + (k : Int)) = N + (k : Int) from if_pos hN0] at x5; exact x5); have HB5 := Lib.hid (HB.out.trans (o5.from_ HG.out)); clear x5 o5)
            | (go_at_call 16; refine (checkT (N + (k : Int)) HX5.out (by omega)).mono ?_; rintro e w6 ⟨rfl, b6⟩; have HX6 := Lib.hid (HX5.out.below b6); have HB6 := Lib.hid (kF b6 HB5.out); clear b6; rw [HR.out]))
          have hkx := HKX.out; exact ⟨⟨k + 1, N + (k : Int), by omega, by go_num, .inr ⟨by omega, by omega⟩, HX6, HB6⟩, by simp [intOf]; omega⟩
        · have HR := Lib.hid (rc_zero (A := AA) (B := BB) (W := N) (F := F) (n := N + (k : Int)) hN0 (by omega) (by omega))
          have hke : ((k : Int) == X) = false := by simpa using hkx
          have HKF : Hid (((k : Int) + 1 ≤ X ∧ F = -1) ∨ (X < (k : Int) + 1 ∧ F = N + X)) := Lib.hid (by omega)
          clear hkF hkx
          go_wp2_with (go_at_call 16; refine (checkT (N + (k : Int)) HX.out (by omega)).mono ?_; rintro e w6 ⟨rfl, b6⟩; have HX6 := Lib.hid (HX.out.below b6); have HB6 := Lib.hid (kF b6 HB.out); clear b6; rw [HR.out])
          exact ⟨⟨k + 1, F, by omega, by go_num, by have := HKF.out; omega, HX6, HB6⟩, by simp [intOf]; omega⟩
      · have HR := Lib.hid (rc_zero (A := AA) (B := BB) (W := N + Z) (F := -1) (n := N + Z) (by omega) (by omega) (.inl (by omega)))
        clear hkF hk
        go_wp2_with (first
          | (go_at_call 10; refine (wholeT (N + Z) HX.out (.inl hN0) (by omega) (by omega)).mono ?_; rintro e w5 ⟨rfl, x5, o5⟩; have HX5 := Lib.hid (show GdT w5 g AA BB (N + Z) (-1) by rw [show whS N (N + Z) = N + Z from if_pos hN0, show whF N F = -1 from if_pos hN0] at x5; exact x5); have HB5 := Lib.hid (HB.out.trans (o5.from_ HG.out)); clear x5 o5)
          | (go_at_call 16; refine (checkT (N + Z) HX5.out (by omega)).mono ?_; rintro e w6 ⟨rfl, b6⟩; have HX6 := Lib.hid (HX5.out.below b6); have HB6 := Lib.hid (kF b6 HB5.out); clear b6; rw [HR.out]))
        exact ⟨⟨j + 1, N + Z, by omega, rfl, by go_num, by omega, by omega, HX6, HB6⟩, by simp [intOf]; omega⟩
    · obtain rfl : j = K := by omega
      have hcs : ((n : Int) ≤ (j : Int)) ∨ ((j : Int) < (n : Int) ∧ (30 : Int) ≤ (j : Int)) := by have := HK.out; omega
      have HLV := Lib.hid (fun w => live28_any w)
      rcases hcs with hcs | ⟨hcs, hcs2⟩
      all_goals
        go_wp2_with (go_at_call 13; refine (HLV.out _).mono ?_; rintro e w9 ⟨rfl, b9⟩; have HB9 := Lib.hid (kF b9 HB.out); clear b9)
        go_ret
        exact ⟨rfl, HB9.out⟩
end Go.Proofs.Ytphjdgapfcflgaa
