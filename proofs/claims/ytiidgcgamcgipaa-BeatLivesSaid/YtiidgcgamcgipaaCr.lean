/- BeatLives: what is so at each tick; its walk. -/
import Derived.Test.YtiidgcgamcgipaaCq
import Derived.Test.YtiidgcgamcgipaaCp
import Derived.Deep.CutBlock
namespace Go.Proofs.Ytiidgcgamcgipaa
open Go.RowKit
set_option linter.unusedSimpArgs false
set_option linter.unusedVariables false

theorem lv_th (tt : Int) : thI 0 9 [(9, tt)] = tt := by first | rfl | (simp [thI, hasI, plcI]; done)
theorem lv_has (tt : Int) : hasI 9 [((9 : Int), tt)] = true := by first | rfl | (simp [hasI, plcI]; done)
theorem lv_put1 (tt : Int) : putI 9 5 [((9 : Int), tt)] = [(9, 5)] := by first | rfl | (simp [putI, hasI, plcI]; done)
theorem lv_put0 : putI 9 5 ([] : List (Int × Int)) = [(9, 5)] := by first | rfl | (simp [putI, hasI, plcI]; done)
theorem lv_dp1 (v r : Int) : dput 9 v [((9 : Int), r)] = [(9, v)] := by simp [dput, dcut]
theorem lv_dp0 (v : Int) : dput 9 v [] = [((9 : Int), v)] := by simp [dput, dcut]
theorem lv_cut : cutI 9 [((9 : Int), (5 : Int))] = [] := by first | rfl | (simp [cutI, hasI, plcI]; done)
theorem lv_ts (tt : Int) (h : 0 < tt) : tsT 9 tt [] = [(9, tt)] := by first | (unfold tsT; rw [if_pos h]; rfl) | (simp [tsT, h, putI, hasI, plcI]; done)
/-- What is so at the start of tick n. -/
def LvS (p tt en n x la lo : Int) (M R : List (Int × Int)) : Prop :=
  n ≤ x ∧ x ≤ n - 1 + p ∧ ((la = -1 ∧ lo = 0 ∧ M = [] ∧ R = []) ∨ (0 ≤ la ∧ la ≤ en ∧ lo = 0 ∧ M = [(9, 5)] ∧ R = [(9, la + tt + 1)] ∧ n ≤ la + tt + 1 ∧ (n ≤ en + 1 → x = la + p)) ∨ (0 ≤ la ∧ lo = 1 ∧ M = [] ∧ R = [] ∧ en + 1 < n))
theorem lv_len {p tt en n x la lo : Int} {M R : List (Int × Int)} (h : LvS p tt en n x la lo M R) : M.length ≤ 1 ∧ R.length ≤ 1 := by
  obtain ⟨_, _, ⟨_, _, rfl, rfl⟩ | ⟨_, _, _, rfl, rfl, _⟩ | ⟨_, _, rfl, rfl, _⟩⟩ := h <;> simp
def LvW (p tt en n x la lo : Int) (M R : List (Int × Int)) : Prop :=
  (n < x ∧ (∀ y ∈ R, n < y.2) ∧ LvS p tt en (n + 1) x la lo M R) ∨
  (n < x ∧ (∃ r, R = [(9, r)] ∧ M = [(9, 5)] ∧ r ≤ n ∧ en < n ∧ n = la + tt + 1 ∧ 0 ≤ la ∧ la ≤ en ∧ lo = 0 ∧ LvS p tt en (n + 1) x la 1 [] [])) ∨
  (n = x ∧ n ≤ en ∧ putI 9 5 M = [(9, 5)] ∧ (∀ v, dput 9 v R = [(9, v)]) ∧ LvS p tt en (n + 1) (x + p) n lo [(9, 5)] [(9, n + tt + 1)]) ∨
  (n = x ∧ en < n ∧ (∀ y ∈ R, n < y.2) ∧ LvS p tt en (n + 1) (x + p) la lo M R) ∨
  (n = x ∧ en < n ∧ (∃ r, R = [(9, r)] ∧ M = [(9, 5)] ∧ r ≤ n ∧ n = la + tt + 1 ∧ 0 ≤ la ∧ la ≤ en ∧ lo = 0 ∧ LvS p tt en (n + 1) (x + p) la 1 [] []))
theorem lv_step {p tt en n x la lo : Int} {M R : List (Int × Int)} (h : LvS p tt en n x la lo M R) (hp : 1 ≤ p) (ht : p ≤ tt) (hn : 1 ≤ n) : LvW p tt en n x la lo M R := by
  obtain ⟨h0, h1, hc⟩ := h
  unfold LvW
  rcases hc with ⟨rfl, rfl, rfl, rfl⟩ | ⟨hl0, hl1, rfl, rfl, rfl, hr, hx⟩ | ⟨hl0, rfl, rfl, rfl, hr⟩
  · by_cases hq : n < x
    · exact .inl ⟨hq, by simp, by omega, by omega, .inl ⟨rfl, rfl, rfl, rfl⟩⟩
    · by_cases he : n ≤ en
      · exact .inr (.inr (.inl ⟨by omega, he, lv_put0, lv_dp0, by omega, by omega, .inr (.inl ⟨by omega, he, rfl, rfl, rfl, by omega, fun _ => by omega⟩)⟩))
      · exact .inr (.inr (.inr (.inl ⟨by omega, by omega, by simp, by omega, by omega, .inl ⟨rfl, rfl, rfl, rfl⟩⟩)))
  · by_cases hq : n < x
    · by_cases hz : la + tt + 1 ≤ n
      · refine .inr (.inl ⟨hq, _, rfl, rfl, hz, ?_, by omega, hl0, hl1, rfl, by omega, by omega, .inr (.inr ⟨hl0, rfl, rfl, rfl, ?_⟩)⟩)
        · by_cases he : n ≤ en
          · have := hx (by omega); omega
          · omega
        · by_cases he : n ≤ en
          · have := hx (by omega); omega
          · omega
      · exact .inl ⟨hq, by simp; omega, by omega, by omega, .inr (.inl ⟨hl0, hl1, rfl, rfl, rfl, by omega, fun h => hx (by omega)⟩)⟩
    · by_cases he : n ≤ en
      · exact .inr (.inr (.inl ⟨by omega, he, lv_put1 5, fun v => lv_dp1 v _, by omega, by omega, .inr (.inl ⟨by omega, he, rfl, rfl, rfl, by omega, fun _ => by omega⟩)⟩))
      · by_cases hz : la + tt + 1 ≤ n
        · exact .inr (.inr (.inr (.inr ⟨by omega, by omega, _, rfl, rfl, hz, by omega, hl0, hl1, rfl, by omega, by omega, .inr (.inr ⟨hl0, rfl, rfl, rfl, by omega⟩)⟩)))
        · exact .inr (.inr (.inr (.inl ⟨by omega, by omega, by simp; omega, by omega, by omega, .inr (.inl ⟨hl0, hl1, rfl, rfl, rfl, by omega, fun h => by omega⟩)⟩)))
  · by_cases hq : n < x
    · exact .inl ⟨hq, by simp, by omega, by omega, .inr (.inr ⟨hl0, rfl, rfl, rfl, by omega⟩)⟩
    · exact .inr (.inr (.inr (.inl ⟨by omega, by omega, by simp, by omega, by omega, .inr (.inr ⟨hl0, rfl, rfl, rfl, by omega⟩)⟩)))
theorem lv_due (x p : Int) (h0 : 0 ≤ x) (h1 : x ≤ 1000) (hp0 : 1 ≤ p) (hp1 : p ≤ 1000) : dueE x p x = x + p := by
  have e : nextE x p x = x + p := by unfold nextE; rw [if_neg (by omega)]; simp
  unfold dueE
  rw [if_neg (by omega), e, if_neg (by omega)]
theorem lv_every (x p : Int) (h0 : 0 ≤ x) (h1 : x ≤ 1000) (hp0 : 1 ≤ p) (hp1 : p ≤ 1000) (w : World) : Calls Try.prog 34 #[.int .i64 x, .int .i64 p, .int .i64 x] w fun e w' => e = .returned (.tuple #[.int .i64 (x + p), .bool true]) ∧ w = w' := by
  have h := every_due w x p x h0 (Int.le_refl _) (by omega) hp0 (by omega)
  rw [lv_due x p h0 h1 hp0 hp1, if_neg (show ¬ x + p = -1 by omega), show decide (x + p = -1) = false from decide_eq_false (by omega)] at h
  exact h
theorem lv_wait (X : WSt) (w0 w : World) (q cm : Nat) (p n x : Int) (h : Duo X w0 q cm 9 p (some x) w) (hx : n < x) : Calls Try.prog 16 #[.pointer (some ⟨q, 0, none⟩), .int .i64 n, .int .i64 5] w fun e w' => e = .returned (.tuple #[.agg #[.int .i64 0, .bool false, .int .i64 0, .int .u8 0, .int .u8 0, .int .u8 0, .int .u8 0, .int .u8 0, .int .u8 0, .int .u8 0, .int .u8 0], .bool false]) ∧ Below w.heap.size w w' :=
  du_tick_wait X w0 w q cm 9 p n 5 x h (by decide) hx
theorem lv_beat (X : WSt) (w0 w : World) (q cm : Nat) (p x : Int) (h : Duo X w0 q cm 9 p (some x) w) (h0 : 0 ≤ x) (h1 : x ≤ 1000) (hp0 : 1 ≤ p) (hp1 : p ≤ 1000) : Calls Try.prog 16 #[.pointer (some ⟨q, 0, none⟩), .int .i64 x, .int .i64 5] w fun e w' => e = .returned (.tuple #[.agg #[.int .i64 1801, .bool false, .int .i64 1, .int .u8 5, .int .u8 0, .int .u8 0, .int .u8 0, .int .u8 0, .int .u8 0, .int .u8 0, .int .u8 0], .bool true]) ∧ Duo X w0 q cm 9 p (some (x + p)) w' ∧ OthM w w' := by
  have hh := du_tick_beat X w0 w q cm 9 p x 5 x (x + p) h (by decide) (by decide) (Int.le_refl _) (lv_every x p h0 h1 hp0 hp1)
  rw [show (1792 : Int) + 9 = 1801 from rfl] at hh
  exact hh
theorem lv_dec9 : decB 1801 false 1 (dOf [5]) = true := (decB_iff 1801 1 false (dOf [5])).2 ⟨by decide, rfl, rfl, by omega, by omega, by decide⟩
theorem lv_hear9 (Y : MSt) (w0 w : World) (g a b c s : Nat) (tt n : Int) (M R : List (Int × Int)) (h : DuW Y w0 g a b c s [(9, tt)] M R w) (hM : M.length ≤ 1) (hR : R.length ≤ 1) (hn0 : 0 ≤ n) (hn1 : n ≤ 1000) (ht0 : 0 ≤ tt) (ht1 : tt ≤ 1000) (hp : putI 9 5 M = [(9, 5)]) (hd : ∀ v, dput 9 v R = [(9, v)]) :
    Calls Try.prog 20 #[.pointer (some ⟨g, 0, none⟩), .agg #[.int .i64 1801, .bool false, .int .i64 1, .int .u8 5, .int .u8 0, .int .u8 0, .int .u8 0, .int .u8 0, .int .u8 0, .int .u8 0, .int .u8 0], .int .i64 n] w fun e w' => ∃ ke, e = .returned (.tuple #[.agg #[.int .i64 ke, .int .i64 9, .int .i64 5], .bool true]) ∧ DuW Y w0 g a b c s [(9, tt)] [(9, 5)] [(9, n + tt + 1)] w' ∧ OthW w w' := by
  refine (du_hear_yes Y w0 w g a b c s [(9, tt)] M R 1801 1 n false (dOf [5]) lv_rng h (by simp) lv_dec9 (isU_yes hn0 (by omega)) 9 tt _ (by decide) (lv_th tt) rfl (lv_has tt) (by omega) (by omega) ht0 (by omega)).mono ?_
  rintro e w' ⟨rfl, h1, h2⟩
  have e5 : dOf [5] 0 = 5 := rfl
  rw [e5, hp, hd] at h1
  exact ⟨_, rfl, h1, h2⟩

set_option maxRecDepth 200000 in
set_option maxHeartbeats 8000000 in
theorem lives_walk (pb mb tb : Int) (w : World) (hp0 : 0 ≤ pb) (hp1 : pb ≤ 255) (hm0 : 0 ≤ mb) (hm1 : mb ≤ 255) (ht0 : 0 ≤ tb) (ht1 : tb ≤ 255) :
    Calls Try.prog 5 #[.int .u8 pb, .int .u8 mb, .int .u8 tb] w fun e w' => e = .returned (.bool true) ∧ Below w.heap.size w w' := by
  have HNW := Lib.hid (mk_new w w 9 (by decide) (Below.refl _ _))
  have hpb : 1 ≤ 1 + pb % 20 ∧ 1 + pb % 20 ≤ 20 := by omega
  have htb : 1 + pb % 20 ≤ 1 + pb % 20 + mb % 21 ∧ 1 + pb % 20 + mb % 21 ≤ 40 := by omega
  have heb : 0 ≤ tb % 201 ∧ tb % 201 ≤ 200 := by omega
  go_enter Try.func5, Try.ntmps5
  go_upto_region 4 with fail
  generalize 1 + pb % 20 = p at *
  generalize p + mb % 21 = tt at *
  generalize tb % 201 = en at *
  obtain ⟨hpa, hpz⟩ := hpb
  obtain ⟨hta, htz⟩ := htb
  obtain ⟨hea, hez⟩ := heb
  go_wp2_with (first
    | (go_at_call 13; refine (HNW.out).mono ?_; rintro e w1 ⟨q, cm, rfl, hm1', hq1, hb1⟩; have HM1 := Lib.hid hm1'; clear hm1' hq1 hb1)
    | (go_at_call 18; refine (wa_new w1 w1 (Below.refl _ _)).mono ?_; rintro e w2 ⟨g, a, b, c, s, rfl, hw2, hg2, hb2⟩; have HD2 := Lib.hid (duo_start HM1.out hw2); clear hw2 hg2 hb2)
    | (go_at_call 14; refine (du_mset_some _ w _ q cm 9 0 p 0 none HD2.out (isU_yes (by omega) (by omega)) (by decide) (by omega)).mono ?_; rintro e w3 ⟨rfl, h3, o3⟩; have HD3 := Lib.hid h3; clear h3 o3)
    | (go_at_call 19; refine (du_wset_ok ⟨q, cm, 9, p, some (0 + p)⟩ w _ g a b c s [] [] [] 9 tt HD3.out (by decide) (isU_yes (by omega) (by omega)) (by simp) (by simp) (by simp)).mono ?_; rw [lv_ts tt (by omega)]; rintro e w4 ⟨rfl, h4, o4⟩; have HD4 := Lib.hid (show Duo ⟨g, a, b, c, s, [(9, tt)], [], []⟩ w q cm 9 p (some (0 + p)) w4 from h4); clear h4 o4))
  rw [Int.zero_add] at HD4
  clear HNW HM1 HD2 HD3
  go_loopw [13, 14, 15] (fun la lo nv wr => ∃ (n x lav lov : Int) (M R : List (Int × Int)), 1 ≤ n ∧ n ≤ en + 61 ∧ la = .int .i64 lav ∧ lo = .int .i64 lov ∧ nv = .int .i64 n ∧ Hid (Duo ⟨g, a, b, c, s, [(9, tt)], M, R⟩ w q cm 9 p (some x) wr) ∧ LvS p tt en n x lav lov M R) (fun _ _ n _ => (300 - intOf n).toNat)
  case atStart => exact ⟨1, p, -1, 0, [], [], by omega, by omega, rfl, rfl, rfl, HD4, by omega, by omega, .inl ⟨rfl, rfl, rfl, rfl⟩⟩
  case round =>
    clear HD4
    obtain ⟨n, x, la, lo, M, R, hn1, hn2, rfl, rfl, rfl, HD, hs⟩ := hrel
    by_cases hlt : n ≤ en + 60
    · obtain ⟨hlM, hlR⟩ := lv_len hs
      have e60 : IntKind.i64.wrap (en + 60) = en + 60 := IntWalk.i64_in _ (by omega)
      have en1 : IntKind.i64.wrap (n + 1) = n + 1 := IntWalk.i64_in _ (by omega)
      rcases lv_step hs hpa hta hn1 with ⟨hx, hq, hs'⟩ | ⟨hx, r, rfl, rfl, hr, he, hnn, hl0, hl1, rfl, hs'⟩ | ⟨rfl, he, hpu, hdp, hs'⟩ | ⟨rfl, he, hq, hs'⟩ | ⟨rfl, he, r, rfl, rfl, hr, hnn, hl0, hl1, rfl, hs'⟩
      · have HS := Lib.hid hs'
        have HX := Lib.hid hx
        have HQ := Lib.hid hq
        clear hs hs' hx hq
        go_upto_region 13 with (first
          | (go_at_call 16; refine (lv_wait _ w _ q cm p n x HD.out HX.out).mono ?_; rintro e w1 ⟨rfl, hb1⟩; have hba : Below w1.heap.size w1 (w1.alloc (.cells #[.int .i64 0, .bool false, .int .i64 0, .int .u8 0, .int .u8 0, .int .u8 0, .int .u8 0, .int .u8 0, .int .u8 0, .int .u8 0, .int .u8 0] 24)) := (Below.refl _ _).alloc (Nat.le_refl _) _; have HD1 := Lib.hid ((HD.out.below hb1).below hba); have HF1 := Lib.hid (frame_new w1 0 0 false (fun _ => 0)); have HQ1 := Lib.hid (show w.heap.size ≤ w1.heap.size from (HD.out.below hb1).bel.size); clear hb1 hba)
          | (refine wpList_store_row rfl _ (.tmp 16) (.tmp 54) rfl w1.heap.size _ rfl rfl _ _ HF1.out info_frame rfl (one_frame 0 0 false (fun _ => 0)) ?_))
        have HD2 := Lib.hid (HD1.out.frame HF1.out HQ1.out #[.int .i64 0, .bool false, .int .i64 0, .int .u8 0, .int .u8 0, .int .u8 0, .int .u8 0, .int .u8 0, .int .u8 0, .int .u8 0, .int .u8 0])
        clear HD1 HF1 HD
        generalize (w1.alloc (.cells #[.int .i64 0, .bool false, .int .i64 0, .int .u8 0, .int .u8 0, .int .u8 0, .int .u8 0, .int .u8 0, .int .u8 0, .int .u8 0, .int .u8 0] 24)).setRow w1.heap.size #[.int .i64 0, .bool false, .int .i64 0, .int .u8 0, .int .u8 0, .int .u8 0, .int .u8 0, .int .u8 0, .int .u8 0, .int .u8 0, .int .u8 0] = w2 at *
        go_wp2_with (go_at_call 21; refine (du_check0 ⟨q, cm, 9, p, some x⟩ w _ g a b c s [(9, tt)] M R n HD2.out (by omega) HQ.out).mono ?_; rintro e w5 ⟨A, cc, rfl, hc, h5, o5⟩; have HD5 := Lib.hid h5; clear h5 o5)
        go_roundw
        case rel => exact ⟨n + 1, x, la, lo, M, R, by omega, by omega, rfl, rfl, by first | rfl | go_num, Lib.hid HD5.out, HS.out⟩
        case measure => simp [intOf]; omega
      · have HS := Lib.hid hs'
        have HX := Lib.hid hx
        have HRL := Lib.hid hr
        have he1 : ¬ n ≤ en := by omega
        have el1 : IntKind.i64.wrap (la + tt) = la + tt := IntWalk.i64_in _ (by omega)
        have el2 : IntKind.i64.wrap (la + tt + 1) = la + tt + 1 := IntWalk.i64_in _ (by omega)
        have tq : (n != la + tt + 1) = false := by simp [hnn]
        have HNN := Lib.hid hnn
        clear hs hs' hx hr hnn
        go_upto_region 13 with (first
          | (go_at_call 16; refine (lv_wait _ w _ q cm p n x HD.out HX.out).mono ?_; rintro e w1 ⟨rfl, hb1⟩; have hba : Below w1.heap.size w1 (w1.alloc (.cells #[.int .i64 0, .bool false, .int .i64 0, .int .u8 0, .int .u8 0, .int .u8 0, .int .u8 0, .int .u8 0, .int .u8 0, .int .u8 0, .int .u8 0] 24)) := (Below.refl _ _).alloc (Nat.le_refl _) _; have HD1 := Lib.hid ((HD.out.below hb1).below hba); have HF1 := Lib.hid (frame_new w1 0 0 false (fun _ => 0)); have HQ1 := Lib.hid (show w.heap.size ≤ w1.heap.size from (HD.out.below hb1).bel.size); clear hb1 hba)
          | (refine wpList_store_row rfl _ (.tmp 16) (.tmp 54) rfl w1.heap.size _ rfl rfl _ _ HF1.out info_frame rfl (one_frame 0 0 false (fun _ => 0)) ?_))
        have HD2 := Lib.hid (HD1.out.frame HF1.out HQ1.out #[.int .i64 0, .bool false, .int .i64 0, .int .u8 0, .int .u8 0, .int .u8 0, .int .u8 0, .int .u8 0, .int .u8 0, .int .u8 0, .int .u8 0])
        clear HD1 HF1 HD
        generalize (w1.alloc (.cells #[.int .i64 0, .bool false, .int .i64 0, .int .u8 0, .int .u8 0, .int .u8 0, .int .u8 0, .int .u8 0, .int .u8 0, .int .u8 0, .int .u8 0] 24)).setRow w1.heap.size #[.int .i64 0, .bool false, .int .i64 0, .int .u8 0, .int .u8 0, .int .u8 0, .int .u8 0, .int .u8 0, .int .u8 0, .int .u8 0, .int .u8 0] = w2 at *
        go_wp2_with (go_at_call 21; refine (du_check1 ⟨q, cm, 9, p, some x⟩ w _ g a b c s [(9, tt)] [(9, 5)] 9 r n HD2.out HRL.out (by simp)).mono ?_; rintro e w5 ⟨bb, cc, rfl, hc0, hc1, hr5, h5, o5⟩; rw [lv_cut] at h5; have HD5 := Lib.hid h5; have hcell : w5.cell? ⟨bb, 0, none⟩ = some (.int .i64 9) := (by rw [own_cell hr5 (by omega)]; rfl); simp only [maxLen] at hc1; clear h5 o5 hr5)
        go_roundw
        case rel => exact ⟨n + 1, x, la, 1, [], [], by omega, by omega, rfl, rfl, by first | rfl | go_num, Lib.hid HD5.out, HS.out⟩
        case measure => simp [intOf]; omega
      · have HS := Lib.hid hs'
        have HPU := Lib.hid hpu
        have HDP := Lib.hid hdp
        clear hs hs' hpu hdp
        go_upto_region 13 with (first
          | (go_at_call 16; refine (lv_beat _ w _ q cm p n HD.out (by omega) (by omega) (by omega) (by omega)).mono ?_; rintro e w1 ⟨rfl, h1, o1⟩; have hba : Below w1.heap.size w1 (w1.alloc (.cells #[.int .i64 0, .bool false, .int .i64 0, .int .u8 0, .int .u8 0, .int .u8 0, .int .u8 0, .int .u8 0, .int .u8 0, .int .u8 0, .int .u8 0] 24)) := (Below.refl _ _).alloc (Nat.le_refl _) _; have HD1 := Lib.hid (h1.below hba); have HF1 := Lib.hid (frame_new w1 0 0 false (fun _ => 0)); have HQ1 := Lib.hid (show w.heap.size ≤ w1.heap.size from h1.bel.size); clear h1 o1 hba)
          | (refine wpList_store_row rfl _ (.tmp 16) (.tmp 54) rfl w1.heap.size _ rfl rfl _ _ HF1.out info_frame rfl (one_frame 1801 1 false (dOf [5])) ?_))
        have HD2 := Lib.hid (HD1.out.frame HF1.out HQ1.out #[.int .i64 1801, .bool false, .int .i64 1, .int .u8 5, .int .u8 0, .int .u8 0, .int .u8 0, .int .u8 0, .int .u8 0, .int .u8 0, .int .u8 0])
        have HF2 := Lib.hid (show FrAt ((w1.alloc (.cells #[.int .i64 0, .bool false, .int .i64 0, .int .u8 0, .int .u8 0, .int .u8 0, .int .u8 0, .int .u8 0, .int .u8 0, .int .u8 0, .int .u8 0] 24)).setRow w1.heap.size #[.int .i64 1801, .bool false, .int .i64 1, .int .u8 5, .int .u8 0, .int .u8 0, .int .u8 0, .int .u8 0, .int .u8 0, .int .u8 0, .int .u8 0]) w1.heap.size 1801 false 1 (dOf [5]) from HF1.out.row 1801 1 false (dOf [5]))
        clear HD1 HF1 HD
        generalize (w1.alloc (.cells #[.int .i64 0, .bool false, .int .i64 0, .int .u8 0, .int .u8 0, .int .u8 0, .int .u8 0, .int .u8 0, .int .u8 0, .int .u8 0, .int .u8 0] 24)).setRow w1.heap.size #[.int .i64 1801, .bool false, .int .i64 1, .int .u8 5, .int .u8 0, .int .u8 0, .int .u8 0, .int .u8 0, .int .u8 0, .int .u8 0, .int .u8 0] = w2 at *
        generalize w1.heap.size = gf at *
        go_upto_region 18 with (first
          | (refine wpList_load_row rfl _ (.tmp 16) rfl gf rfl _ _ _ _ HF2.out Try.underlying24 rfl info_frame ?_)
          | (go_at_call 20; refine (lv_hear9 ⟨q, cm, 9, p, some (n + p)⟩ w _ g a b c s tt n M R HD2.out hlM hlR (by omega) (by omega) (by omega) (by omega) HPU.out HDP.out).mono ?_; rintro e w3 ⟨ke, rfl, h3, o3⟩; have hba : Below w3.heap.size w3 (w3.alloc (.cells #[.int .i64 0, .int .i64 0, .int .i64 0] 57)) := (Below.refl _ _).alloc (Nat.le_refl _) _; have HD3 := Lib.hid (h3.below hba); have HV3 := Lib.hid (show EvAt (w3.alloc (.cells #[.int .i64 0, .int .i64 0, .int .i64 0] 57)) w3.heap.size 0 0 0 from heap_alloc_new w3 _); have HQ3 := Lib.hid (show w.heap.size ≤ w3.heap.size from h3.bel.size); clear h3 o3 hba)
          | (refine wpList_store_row rfl _ (.tmp 18) (.tmp 67) rfl w3.heap.size _ rfl rfl _ _ HV3.out info_event rfl (one_event ke 9 5) ?_))
        have HD4 := Lib.hid (HD3.out.event HV3.out HQ3.out #[.int .i64 ke, .int .i64 9, .int .i64 5])
        clear HD3 HV3 HD2 HF2
        generalize (w3.alloc (.cells #[.int .i64 0, .int .i64 0, .int .i64 0] 57)).setRow w3.heap.size #[.int .i64 ke, .int .i64 9, .int .i64 5] = w4 at *
        go_wp2_with (go_at_call 21; refine (du_check0 ⟨q, cm, 9, p, some (n + p)⟩ w _ g a b c s [(9, tt)] [(9, 5)] [(9, n + tt + 1)] n HD4.out (by simp) (by simp; omega)).mono ?_; rintro e w5 ⟨A, cc, rfl, hc, h5, o5⟩; have HD5 := Lib.hid h5; clear h5 o5)
        go_roundw
        case rel => exact ⟨n + 1, (n + p), n, lo, [(9, 5)], [(9, n + tt + 1)], by omega, by omega, rfl, rfl, by first | rfl | go_num, Lib.hid HD5.out, HS.out⟩
        case measure => simp [intOf]; omega
      · have HS := Lib.hid hs'
        have HQ := Lib.hid hq
        have he1 : ¬ n ≤ en := by omega
        clear hs hs' hq
        go_upto_region 13 with (first
          | (go_at_call 16; refine (lv_beat _ w _ q cm p n HD.out (by omega) (by omega) (by omega) (by omega)).mono ?_; rintro e w1 ⟨rfl, h1, o1⟩; have hba : Below w1.heap.size w1 (w1.alloc (.cells #[.int .i64 0, .bool false, .int .i64 0, .int .u8 0, .int .u8 0, .int .u8 0, .int .u8 0, .int .u8 0, .int .u8 0, .int .u8 0, .int .u8 0] 24)) := (Below.refl _ _).alloc (Nat.le_refl _) _; have HD1 := Lib.hid (h1.below hba); have HF1 := Lib.hid (frame_new w1 0 0 false (fun _ => 0)); have HQ1 := Lib.hid (show w.heap.size ≤ w1.heap.size from h1.bel.size); clear h1 o1 hba)
          | (refine wpList_store_row rfl _ (.tmp 16) (.tmp 54) rfl w1.heap.size _ rfl rfl _ _ HF1.out info_frame rfl (one_frame 1801 1 false (dOf [5])) ?_))
        have HD2 := Lib.hid (HD1.out.frame HF1.out HQ1.out #[.int .i64 1801, .bool false, .int .i64 1, .int .u8 5, .int .u8 0, .int .u8 0, .int .u8 0, .int .u8 0, .int .u8 0, .int .u8 0, .int .u8 0])
        have HF2 := Lib.hid (show FrAt ((w1.alloc (.cells #[.int .i64 0, .bool false, .int .i64 0, .int .u8 0, .int .u8 0, .int .u8 0, .int .u8 0, .int .u8 0, .int .u8 0, .int .u8 0, .int .u8 0] 24)).setRow w1.heap.size #[.int .i64 1801, .bool false, .int .i64 1, .int .u8 5, .int .u8 0, .int .u8 0, .int .u8 0, .int .u8 0, .int .u8 0, .int .u8 0, .int .u8 0]) w1.heap.size 1801 false 1 (dOf [5]) from HF1.out.row 1801 1 false (dOf [5]))
        clear HD1 HF1 HD
        generalize (w1.alloc (.cells #[.int .i64 0, .bool false, .int .i64 0, .int .u8 0, .int .u8 0, .int .u8 0, .int .u8 0, .int .u8 0, .int .u8 0, .int .u8 0, .int .u8 0] 24)).setRow w1.heap.size #[.int .i64 1801, .bool false, .int .i64 1, .int .u8 5, .int .u8 0, .int .u8 0, .int .u8 0, .int .u8 0, .int .u8 0, .int .u8 0, .int .u8 0] = w2 at *
        generalize w1.heap.size = gf at *
        go_wp2_with (go_at_call 21; refine (du_check0 ⟨q, cm, 9, p, some (n + p)⟩ w _ g a b c s [(9, tt)] M R n HD2.out (by omega) HQ.out).mono ?_; rintro e w5 ⟨A, cc, rfl, hc, h5, o5⟩; have HD5 := Lib.hid h5; clear h5 o5)
        go_roundw
        case rel => exact ⟨n + 1, (n + p), la, lo, M, R, by omega, by omega, rfl, rfl, by first | rfl | go_num, Lib.hid HD5.out, HS.out⟩
        case measure => simp [intOf]; omega
      · have HS := Lib.hid hs'
        have HRL := Lib.hid hr
        have he1 : ¬ n ≤ en := by omega
        have el1 : IntKind.i64.wrap (la + tt) = la + tt := IntWalk.i64_in _ (by omega)
        have el2 : IntKind.i64.wrap (la + tt + 1) = la + tt + 1 := IntWalk.i64_in _ (by omega)
        have tq : (n != la + tt + 1) = false := by simp [hnn]
        have HNN := Lib.hid hnn
        clear hs hs' hr hnn
        go_upto_region 13 with (first
          | (go_at_call 16; refine (lv_beat _ w _ q cm p n HD.out (by omega) (by omega) (by omega) (by omega)).mono ?_; rintro e w1 ⟨rfl, h1, o1⟩; have hba : Below w1.heap.size w1 (w1.alloc (.cells #[.int .i64 0, .bool false, .int .i64 0, .int .u8 0, .int .u8 0, .int .u8 0, .int .u8 0, .int .u8 0, .int .u8 0, .int .u8 0, .int .u8 0] 24)) := (Below.refl _ _).alloc (Nat.le_refl _) _; have HD1 := Lib.hid (h1.below hba); have HF1 := Lib.hid (frame_new w1 0 0 false (fun _ => 0)); have HQ1 := Lib.hid (show w.heap.size ≤ w1.heap.size from h1.bel.size); clear h1 o1 hba)
          | (refine wpList_store_row rfl _ (.tmp 16) (.tmp 54) rfl w1.heap.size _ rfl rfl _ _ HF1.out info_frame rfl (one_frame 1801 1 false (dOf [5])) ?_))
        have HD2 := Lib.hid (HD1.out.frame HF1.out HQ1.out #[.int .i64 1801, .bool false, .int .i64 1, .int .u8 5, .int .u8 0, .int .u8 0, .int .u8 0, .int .u8 0, .int .u8 0, .int .u8 0, .int .u8 0])
        have HF2 := Lib.hid (show FrAt ((w1.alloc (.cells #[.int .i64 0, .bool false, .int .i64 0, .int .u8 0, .int .u8 0, .int .u8 0, .int .u8 0, .int .u8 0, .int .u8 0, .int .u8 0, .int .u8 0] 24)).setRow w1.heap.size #[.int .i64 1801, .bool false, .int .i64 1, .int .u8 5, .int .u8 0, .int .u8 0, .int .u8 0, .int .u8 0, .int .u8 0, .int .u8 0, .int .u8 0]) w1.heap.size 1801 false 1 (dOf [5]) from HF1.out.row 1801 1 false (dOf [5]))
        clear HD1 HF1 HD
        generalize (w1.alloc (.cells #[.int .i64 0, .bool false, .int .i64 0, .int .u8 0, .int .u8 0, .int .u8 0, .int .u8 0, .int .u8 0, .int .u8 0, .int .u8 0, .int .u8 0] 24)).setRow w1.heap.size #[.int .i64 1801, .bool false, .int .i64 1, .int .u8 5, .int .u8 0, .int .u8 0, .int .u8 0, .int .u8 0, .int .u8 0, .int .u8 0, .int .u8 0] = w2 at *
        generalize w1.heap.size = gf at *
        go_wp2_with (go_at_call 21; refine (du_check1 ⟨q, cm, 9, p, some (n + p)⟩ w _ g a b c s [(9, tt)] [(9, 5)] 9 r n HD2.out HRL.out (by simp)).mono ?_; rintro e w5 ⟨bb, cc, rfl, hc0, hc1, hr5, h5, o5⟩; rw [lv_cut] at h5; have HD5 := Lib.hid h5; have hcell : w5.cell? ⟨bb, 0, none⟩ = some (.int .i64 9) := (by rw [own_cell hr5 (by omega)]; rfl); simp only [maxLen] at hc1; clear h5 o5 hr5)
        go_roundw
        case rel => exact ⟨n + 1, (n + p), la, 1, [], [], by omega, by omega, rfl, rfl, by first | rfl | go_num, Lib.hid HD5.out, HS.out⟩
        case measure => simp [intOf]; omega
    · have HB := Lib.hid HD.out.bel
      clear HD
      obtain ⟨_, _, ⟨rfl, rfl, rfl, rfl⟩ | ⟨hl0, hl1, rfl, rfl, rfl, hr, hx⟩ | ⟨hl0, rfl, rfl, rfl, hr⟩⟩ := hs
      · go_wp2_with (go_at_call 12; refine (live22_any _).mono ?_; rintro e w6 ⟨rfl, hb6⟩)
        go_ret
        exact ⟨rfl, HB.out.trans (hb6.mono HB.out.size)⟩
      · omega
      · have hl1 : ¬ la < 0 := by omega
        go_wp2_with (go_at_call 12; refine (live22_any _).mono ?_; rintro e w6 ⟨rfl, hb6⟩)
        go_ret
        exact ⟨rfl, HB.out.trans (hb6.mono HB.out.size)⟩
end Go.Proofs.Ytiidgcgamcgipaa
