/- The walk of GuardPlays. -/
import Derived.Test.YtphjdgapfcflgaaZh
namespace Go.Proofs.Ytphjdgapfcflgaa
open Go.RowKit
set_option linter.unusedSimpArgs false
set_option linter.unusedVariables false

set_option maxRecDepth 100000 in
set_option maxHeartbeats 4000000 in
theorem plays_no (T G : Int) (A : Option Addr) (n c : Nat) (be : Int) (w : World) (h : (T < 1 ∨ 65535 < T) ∨ ((¬ T < 1 ∧ ¬ 65535 < T) ∧ (G < 1 ∨ 65535 < G))) :
    Calls Try.prog 3 #[.int .i64 T, .int .i64 G, .slice A n c, .int .u16 be] w fun e w' => e = .returned (.bool true) ∧ Below w.heap.size w w' := by
  have hL : isL T = false ∨ isL G = false := by
    rcases h with h | ⟨_, h⟩
    · exact .inl (decide_eq_false (by omega))
    · exact .inr (decide_eq_false (by omega))
  have HN := Lib.hid (new_no T G w hL)
  have HLV := Lib.hid (live28_any w)
  have hcs : (T < 1) ∨ (¬ T < 1 ∧ 65535 < T) ∨ (¬ T < 1 ∧ ¬ 65535 < T ∧ G < 1) ∨ (¬ T < 1 ∧ ¬ 65535 < T ∧ ¬ G < 1 ∧ 65535 < G) := by omega
  clear h hL
  rcases hcs with h1 | ⟨h1, h2⟩ | ⟨h1, h2, h3⟩ | ⟨h1, h2, h3, h4⟩
  all_goals
    go_enter Try.func3, Try.ntmps3
    go_wp2_with (first
        | (go_at_call 7; refine (HN.out).mono ?_; rintro e w1 ⟨rfl, rfl⟩)
        | (go_at_call 13; refine (HLV.out).mono ?_; rintro e w9 ⟨rfl, b9⟩; have HB9 := Lib.hid b9; clear b9)
        | (go_at_call 8; refine (sleep_nil _).mono ?_; rintro e w5 ⟨rfl, rfl⟩)
        | (go_at_call 9; refine (half_nil _).mono ?_; rintro e w5 ⟨rfl, rfl⟩)
        | (go_at_call 10; refine (whole_nil _).mono ?_; rintro e w5 ⟨rfl, rfl⟩)
        | (go_at_call 11; refine (drop_nil _).mono ?_; rintro e w5 ⟨rfl, rfl⟩)
        | (go_at_call 12; refine (left_nil _).mono ?_; rintro e w5 ⟨rfl, rfl⟩)
        | (go_at_call 14; refine (wake_nil _).mono ?_; rintro e w5 ⟨rfl, rfl⟩)
        | (go_at_call 15; refine (awake_nil _).mono ?_; rintro e w5 ⟨rfl, rfl⟩)
        | (go_at_call 16; refine (check_nil _).mono ?_; rintro e w5 ⟨rfl, rfl⟩)
        | (go_at_call 17; refine (fork_nil _).mono ?_; rintro e w5 ⟨rfl, rfl⟩))
    go_ret
    exact ⟨rfl, HB9.out⟩
set_option maxRecDepth 100000 in
set_option maxHeartbeats 16000000 in
theorem plays_yes (T G : Int) (A : Option Addr) (n c : Nat) (be : Int) (fs : Nat → Int × Int) (w : World) (hT : 1 ≤ T ∧ T ≤ 65535) (hG : 1 ≤ G ∧ G ≤ 65535) (hbe : 0 ≤ be ∧ be ≤ 65535) (h : DesG w w.heap.size A n c fs) :
    Calls Try.prog 3 #[.int .i64 T, .int .i64 G, .slice A n c, .int .u16 be] w fun e w' => e = .returned (.bool true) ∧ Below w.heap.size w w' := by
  have hcap := h.cap
  have hmax := h.max
  simp only [maxLen] at hmax
  obtain ⟨K, hKn, hK60, hK⟩ := upto_of n 60
  have HDS := Lib.hid h
  have HK := Lib.hid hK
  clear h hK
  have cbe : IntKind.i64.wrap be = be := IntWalk.i64_in _ (by omega)
  have HN := Lib.hid (newT T G w hT hG)
  have HRN := Lib.hid (fun w => rnew_any T G w)
  have hT1 : ¬ T < 1 := by omega
  have hT2 : ¬ 65535 < T := by omega
  have hG1 : ¬ G < 1 := by omega
  have hG2 : ¬ 65535 < G := by omega
  obtain ⟨hT0, hT9⟩ := hT
  obtain ⟨hG0, hG9⟩ := hG
  obtain ⟨hbe0, hbe9⟩ := hbe
  go_enter Try.func3, Try.ntmps3
  go_upto_region 10 with (first
    | (go_at_call 7; refine (HN.out).mono ?_; rintro e w1 ⟨g, hg, rfl, x1, b1⟩; have HX1 := Lib.hid x1; have HB1 := Lib.hid b1; have HG := Lib.hid hg; clear x1 b1 hg)
    | (go_at_call 18; refine (HRN.out _).mono ?_; rintro e w2 ⟨rfl, b2⟩; have HX2 := Lib.hid (HX1.out.below b2); have HB2 := Lib.hid (kF b2 HB1.out); clear b2))
  have hal : Below w2.heap.size w2 (w2.alloc (.cells #[.int .i64 T, .int .i64 G, .int .i64 (-1), .int .i64 (-1)] 37)) := (Below.refl _ _).alloc (Nat.le_refl _) _
  have HR3 := Lib.hid (show RdAt (w2.alloc (.cells #[.int .i64 T, .int .i64 G, .int .i64 (-1), .int .i64 (-1)] 37)) w2.heap.size T G (-1) (-1) from heap_alloc_new w2 _)
  have HX3 := Lib.hid (HX2.out.below hal)
  have HB3 := Lib.hid (kF hal HB2.out)
  have HD3 := Lib.hid (show w.heap.size ≤ g ∧ ¬ w2.heap.size = g from ⟨HG.out, fun e => by have := HX2.out.lt; omega⟩)
  have HW3 := Lib.hid HB2.out.size
  clear hal HX1 HX2 HB1 HB2 HG HN HRN hT1 hT2 hG1 hG2
  generalize w2.alloc (.cells #[.int .i64 T, .int .i64 G, .int .i64 (-1), .int .i64 (-1)] 37) = w3 at *
  generalize w2.heap.size = D at *
  go_wp2_with fail
  go_loopw [9, 14, 15] (fun gp nw i wr => ∃ (j q : Nat) (N S F : Int), j ≤ K ∧ gp = .pointer (some ⟨q, 0, none⟩) ∧ nw = .int .i64 N ∧ i = .int .i64 j ∧ 0 ≤ N ∧ N ≤ 255 * (j : Int) ∧ Hid (upT S N) ∧ Hid (upT F N) ∧ Hid (GdT wr q T G S F) ∧ Hid (RdAt wr D T G S F) ∧ Hid (Below w.heap.size w wr) ∧ Hid (w.heap.size ≤ q ∧ ¬ D = q)) (fun _ _ i _ => 70 - (intOf i).toNat)
  case atStart => exact ⟨0, g, 0, -1, -1, by omega, rfl, rfl, rfl, by omega, by omega, Lib.hid (.inr rfl), Lib.hid (.inr rfl), HX3, HR3, HB3, HD3⟩
  case round =>
    clear HX3 HR3 HB3 HD3
    obtain ⟨j, q, N0, S, F, hj, rfl, rfl, rfl, hN0, hN9, HS0, HF0, HX, HR, HB, HQ⟩ := hrel
    by_cases hlt : j < K
    · have hlt' : j < n := by omega
      obtain ⟨b, off, rfl, hbb, hcl⟩ := HDS.out.cells (by omega)
      have hf := (hcl j hlt').below hbb HB.out
      generalize fs j = x at hf
      obtain ⟨u0, u1⟩ := x
      obtain ⟨k0, k1, hv0, hv1⟩ := hf
      simp only at k0 k1 hv0 hv1
      have hjn : (j : Int) < (n : Int) := by omega
      have hj60 : (j : Int) < 60 := by omega
      have d2 : IntKind.i64.wrap u1 = u1 := IntWalk.i64_in _ (by omega)
      obtain ⟨N, hN⟩ : ∃ t, N0 + u1 = t := ⟨_, rfl⟩
      have d4 : IntKind.i64.wrap (N0 + u1) = N := by rw [hN]; exact IntWalk.i64_in _ (by omega)
      have hM0 : 0 ≤ N := by omega
      have hM9 : N ≤ 255 * ((j : Int) + 1) := by omega
      have HS := Lib.hid (HS0.out.le (show N0 ≤ N by omega))
      have HF := Lib.hid (HF0.out.le (show N0 ≤ N by omega))
      have HOR := Lib.hid HS.out.or
      have HGQ := Lib.hid HQ.out.1
      have HQD := Lib.hid HQ.out.2
      have HDQ := Lib.hid (show ¬ q = D from fun e => HQ.out.2 e.symm)
      clear hcl hv0 hv1 hN HS0 HF0 hN0 hN9
      go_upto_block 2 with fail
      clear d2 d4 k0 k1
      go_cut [9, 16, 17] from 106 to 155 (fun s9 s16 s17 wx => ∃ (q : Nat) (S F : Int), s9 = .pointer (some ⟨q, 0, none⟩) ∧ Hid (upT S N) ∧ Hid (upT F N) ∧ Hid (GdT wx q T G S F) ∧ Hid (RdAt wx D T G S F) ∧ Hid (Below w.heap.size w wx) ∧ Hid (w.heap.size ≤ q ∧ ¬ D = q))
      case first =>
        have hcs : u0 = 0 ∨ u0 = 1 ∨ u0 = 2 ∨ u0 = 3 ∨ u0 = 4 ∨ u0 = 5 ∨ (¬ u0 = 0 ∧ ¬ u0 = 1 ∧ ¬ u0 = 2 ∧ ¬ u0 = 3 ∧ ¬ u0 = 4 ∧ ¬ u0 = 5) := by omega
        rcases hcs with rfl | rfl | rfl | rfl | rfl | rfl | ⟨g0, g1, g2, g3, g4, g5⟩
        · by_cases hS : 0 ≤ S
          · skip
            have HWK := Lib.hid (fun (x : World) (hx : GdT x q T G S F) => wakeT N hx HOR.out hM0 (by omega))
            simp only [show decide (S < 0) = false from by simp; omega, show wkS S N = S from if_pos hS] at HWK
            have HRW := Lib.hid (fun (x : World) => rwake_no T G S F N x hS)
            clear hS
            go_wp2_with (first
              | (refine wpList_load_row rfl _ (.tmp 13) rfl D rfl _ _ _ _ HR.out Try.underlying37 rfl info_rd ?_)
              | (go_at_call 19; refine (HRW.out _).mono ?_; rintro e w6 ⟨rfl, b6⟩; have HX6 := Lib.hid (HX.out.below b6); have HR6 := Lib.hid (HR.out.below b6); have HB6 := Lib.hid (kF b6 HB.out); clear b6)
              | (refine wpList_store_row rfl _ (.tmp 13) (.tmp 112) rfl D _ rfl rfl _ _ HR6.out info_rd rfl (one_rd _ _ _ _) ?_)
              | (go_at_call 14; refine (HWK.out _ (HX6.out.onl (onl_row _ HR6.out) HDQ.out)).mono ?_; rintro e w7 ⟨rfl, x7, o7⟩; have HX7 := Lib.hid x7; have HR7 := Lib.hid ((HR6.out.row T G S F).onl o7 HQD.out); have HB7 := Lib.hid ((below_setRow HB6.out HW3.out _).trans (o7.from_ HGQ.out)); clear x7 o7))
            go_meet
            exact ⟨q, S, F, rfl, Lib.hid (HS.out), HF, HX7, HR7, HB7, HQ⟩
          · skip
            have HWK := Lib.hid (fun (x : World) (hx : GdT x q T G S F) => wakeT N hx HOR.out hM0 (by omega))
            simp only [show decide (S < 0) = true from by simp; omega, show wkS S N = N from if_neg (by omega)] at HWK
            have HRW := Lib.hid (fun (x : World) => rwake_yes T G S F N x (by omega))
            clear hS
            go_wp2_with (first
              | (refine wpList_load_row rfl _ (.tmp 13) rfl D rfl _ _ _ _ HR.out Try.underlying37 rfl info_rd ?_)
              | (go_at_call 19; refine (HRW.out _).mono ?_; rintro e w6 ⟨rfl, b6⟩; have HX6 := Lib.hid (HX.out.below b6); have HR6 := Lib.hid (HR.out.below b6); have HB6 := Lib.hid (kF b6 HB.out); clear b6)
              | (refine wpList_store_row rfl _ (.tmp 13) (.tmp 112) rfl D _ rfl rfl _ _ HR6.out info_rd rfl (one_rd _ _ _ _) ?_)
              | (go_at_call 14; refine (HWK.out _ (HX6.out.onl (onl_row _ HR6.out) HDQ.out)).mono ?_; rintro e w7 ⟨rfl, x7, o7⟩; have HX7 := Lib.hid x7; have HR7 := Lib.hid ((HR6.out.row T G N F).onl o7 HQD.out); have HB7 := Lib.hid ((below_setRow HB6.out HW3.out _).trans (o7.from_ HGQ.out)); clear x7 o7))
            go_meet
            exact ⟨q, N, F, rfl, Lib.hid (.inl ⟨hM0, Int.le_refl _⟩), HF, HX7, HR7, HB7, HQ⟩
        · have HRS := Lib.hid (fun (x : World) => rsleep_any T G S F x)
          go_wp2_with (first
            | (go_at_call 8; refine (sleepT HX.out).mono ?_; rintro e w5 ⟨rfl, x5, o5⟩; have HX5 := Lib.hid x5; have HR5 := Lib.hid (HR.out.onl o5 HQD.out); have HB5 := Lib.hid (HB.out.trans (o5.from_ HGQ.out)); clear x5 o5)
            | (refine wpList_load_row rfl _ (.tmp 13) rfl D rfl _ _ _ _ HR5.out Try.underlying37 rfl info_rd ?_)
            | (go_at_call 20; refine (HRS.out _).mono ?_; rintro e w6 ⟨rfl, b6⟩; have HX6 := Lib.hid (HX5.out.below b6); have HR6 := Lib.hid (HR5.out.below b6); have HB6 := Lib.hid (kF b6 HB5.out); clear b6)
            | (refine wpList_store_row rfl _ (.tmp 13) (.tmp 124) rfl D _ rfl rfl _ _ HR6.out info_rd rfl (one_rd _ _ _ _) ?_))
          go_meet
          exact ⟨q, -1, -1, rfl, Lib.hid .no, Lib.hid .no, Lib.hid (HX6.out.onl (onl_row _ HR6.out) HDQ.out), Lib.hid (HR6.out.row T G (-1) (-1)), Lib.hid (below_setRow HB6.out HW3.out _), HQ⟩
        · by_cases hS : 0 ≤ S
          · skip
            have HGC := Lib.hid (halfT N HX.out HOR.out hM0 (by omega))
            rw [show hfF S F N = N from if_pos hS] at HGC
            have HRS := Lib.hid (fun (x : World) => rhalf_yes T G S F N x hS)
            clear hS
            go_wp2_with (first
              | (go_at_call 9; refine (HGC.out).mono ?_; rintro e w5 ⟨rfl, x5, o5⟩; have HX5 := Lib.hid x5; have HR5 := Lib.hid (HR.out.onl o5 HQD.out); have HB5 := Lib.hid (HB.out.trans (o5.from_ HGQ.out)); clear x5 o5)
              | (refine wpList_load_row rfl _ (.tmp 13) rfl D rfl _ _ _ _ HR5.out Try.underlying37 rfl info_rd ?_)
              | (go_at_call 21; refine (HRS.out _).mono ?_; rintro e w6 ⟨rfl, b6⟩; have HX6 := Lib.hid (HX5.out.below b6); have HR6 := Lib.hid (HR5.out.below b6); have HB6 := Lib.hid (kF b6 HB5.out); clear b6)
              | (refine wpList_store_row rfl _ (.tmp 13) (.tmp 132) rfl D _ rfl rfl _ _ HR6.out info_rd rfl (one_rd _ _ _ _) ?_))
            go_meet
            exact ⟨q, S, N, rfl, HS, Lib.hid (.inl ⟨hM0, Int.le_refl _⟩), Lib.hid (HX6.out.onl (onl_row _ HR6.out) HDQ.out), Lib.hid (HR6.out.row T G (S) (N)), Lib.hid (below_setRow HB6.out HW3.out _), HQ⟩
          · skip
            have HGC := Lib.hid (halfT N HX.out HOR.out hM0 (by omega))
            rw [show hfF S F N = F from if_neg hS] at HGC
            have HRS := Lib.hid (fun (x : World) => rhalf_no T G S F N x (by omega))
            clear hS
            go_wp2_with (first
              | (go_at_call 9; refine (HGC.out).mono ?_; rintro e w5 ⟨rfl, x5, o5⟩; have HX5 := Lib.hid x5; have HR5 := Lib.hid (HR.out.onl o5 HQD.out); have HB5 := Lib.hid (HB.out.trans (o5.from_ HGQ.out)); clear x5 o5)
              | (refine wpList_load_row rfl _ (.tmp 13) rfl D rfl _ _ _ _ HR5.out Try.underlying37 rfl info_rd ?_)
              | (go_at_call 21; refine (HRS.out _).mono ?_; rintro e w6 ⟨rfl, b6⟩; have HX6 := Lib.hid (HX5.out.below b6); have HR6 := Lib.hid (HR5.out.below b6); have HB6 := Lib.hid (kF b6 HB5.out); clear b6)
              | (refine wpList_store_row rfl _ (.tmp 13) (.tmp 132) rfl D _ rfl rfl _ _ HR6.out info_rd rfl (one_rd _ _ _ _) ?_))
            go_meet
            exact ⟨q, S, F, rfl, HS, HF, Lib.hid (HX6.out.onl (onl_row _ HR6.out) HDQ.out), Lib.hid (HR6.out.row T G (S) (F)), Lib.hid (below_setRow HB6.out HW3.out _), HQ⟩
        · by_cases hS : 0 ≤ S
          · skip
            have HGC := Lib.hid (wholeT N HX.out HOR.out hM0 (by omega))
            rw [show whS S N = N from if_pos hS, show whF S F = -1 from if_pos hS] at HGC
            have HRS := Lib.hid (fun (x : World) => rwhole_yes T G S F N x hS)
            clear hS
            go_wp2_with (first
              | (go_at_call 10; refine (HGC.out).mono ?_; rintro e w5 ⟨rfl, x5, o5⟩; have HX5 := Lib.hid x5; have HR5 := Lib.hid (HR.out.onl o5 HQD.out); have HB5 := Lib.hid (HB.out.trans (o5.from_ HGQ.out)); clear x5 o5)
              | (refine wpList_load_row rfl _ (.tmp 13) rfl D rfl _ _ _ _ HR5.out Try.underlying37 rfl info_rd ?_)
              | (go_at_call 22; refine (HRS.out _).mono ?_; rintro e w6 ⟨rfl, b6⟩; have HX6 := Lib.hid (HX5.out.below b6); have HR6 := Lib.hid (HR5.out.below b6); have HB6 := Lib.hid (kF b6 HB5.out); clear b6)
              | (refine wpList_store_row rfl _ (.tmp 13) (.tmp 140) rfl D _ rfl rfl _ _ HR6.out info_rd rfl (one_rd _ _ _ _) ?_))
            go_meet
            exact ⟨q, N, -1, rfl, Lib.hid (.inl ⟨hM0, Int.le_refl _⟩), Lib.hid .no, Lib.hid (HX6.out.onl (onl_row _ HR6.out) HDQ.out), Lib.hid (HR6.out.row T G (N) (-1)), Lib.hid (below_setRow HB6.out HW3.out _), HQ⟩
          · skip
            have HGC := Lib.hid (wholeT N HX.out HOR.out hM0 (by omega))
            rw [show whS S N = S from if_neg hS, show whF S F = F from if_neg hS] at HGC
            have HRS := Lib.hid (fun (x : World) => rwhole_no T G S F N x (by omega))
            clear hS
            go_wp2_with (first
              | (go_at_call 10; refine (HGC.out).mono ?_; rintro e w5 ⟨rfl, x5, o5⟩; have HX5 := Lib.hid x5; have HR5 := Lib.hid (HR.out.onl o5 HQD.out); have HB5 := Lib.hid (HB.out.trans (o5.from_ HGQ.out)); clear x5 o5)
              | (refine wpList_load_row rfl _ (.tmp 13) rfl D rfl _ _ _ _ HR5.out Try.underlying37 rfl info_rd ?_)
              | (go_at_call 22; refine (HRS.out _).mono ?_; rintro e w6 ⟨rfl, b6⟩; have HX6 := Lib.hid (HX5.out.below b6); have HR6 := Lib.hid (HR5.out.below b6); have HB6 := Lib.hid (kF b6 HB5.out); clear b6)
              | (refine wpList_store_row rfl _ (.tmp 13) (.tmp 140) rfl D _ rfl rfl _ _ HR6.out info_rd rfl (one_rd _ _ _ _) ?_))
            go_meet
            exact ⟨q, S, F, rfl, HS, HF, Lib.hid (HX6.out.onl (onl_row _ HR6.out) HDQ.out), Lib.hid (HR6.out.row T G (S) (F)), Lib.hid (below_setRow HB6.out HW3.out _), HQ⟩
        · have HZ := Lib.hid (fun (x : World) (hx : RdAt x D T G S F) => hx.cells)
          go_wp2_with (first
            | (go_at_call 11; refine (dropT HX.out).mono ?_; rintro e w5 ⟨rfl, x5, o5⟩; have HX5 := Lib.hid x5; have HR5 := Lib.hid (HR.out.onl o5 HQD.out); have HB5 := Lib.hid (HB.out.trans (o5.from_ HGQ.out)); clear x5 o5; obtain ⟨a0, a1, a2, a3⟩ := HR5.out.cells; have f3 := HR5.out.frozen 3))
          go_meet
          exact ⟨q, S, -1, rfl, HS, Lib.hid .no, Lib.hid (HX5.out.onl (Onl.set (g := D) w5 3 (.int .i64 (-1))) HDQ.out), Lib.hid (HR5.out.first (-1)), Lib.hid (HB5.out.setCell (p := ⟨D, 3, none⟩) HW3.out _), HQ⟩
        · go_wp2_with (first
            | (go_at_call 17; refine (forkT HX.out).mono ?_; rintro e w5 ⟨p, hp, rfl, x5, b5⟩; have HX5 := Lib.hid (HX.out.below b5); have HP5 := Lib.hid x5; have HR5 := Lib.hid (HR.out.below b5); have HB5 := Lib.hid (kF b5 HB.out); have HPQ := Lib.hid (show w.heap.size ≤ p ∧ ¬ D = p ∧ ¬ p = q from ⟨Nat.le_trans HB.out.size hp, fun e => by have := HR.out.lt; omega, fun e => by have := HX.out.lt; omega⟩); clear x5 b5 hp)
            | (go_at_call 10; refine (wholeT N HX5.out HOR.out hM0 (by omega)).mono ?_; rintro e w6 ⟨rfl, x6, o6⟩; have HX6 := Lib.hid x6; have HP6 := Lib.hid (HP5.out.onl o6 HPQ.out.2.2); have HR6 := Lib.hid (HR5.out.onl o6 HQD.out); have HB6 := Lib.hid (HB5.out.trans (o6.from_ HGQ.out)); clear x6 o6)
            | (go_at_call 8; refine (sleepT HX6.out).mono ?_; rintro e w7 ⟨rfl, x7, o7⟩; have HP7 := Lib.hid (HP6.out.onl o7 HPQ.out.2.2); have HR7 := Lib.hid (HR6.out.onl o7 HQD.out); have HB7 := Lib.hid (HB6.out.trans (o7.from_ HGQ.out)); clear x7 o7))
          go_meet
          exact ⟨p, S, F, rfl, HS, HF, HP7, HR7, HB7, Lib.hid ⟨HPQ.out.1, HPQ.out.2.1⟩⟩
        · have g0 : (u0 == 0) = false := by simpa using g0
          have g1 : (u0 == 1) = false := by simpa using g1
          have g2 : (u0 == 2) = false := by simpa using g2
          have g3 : (u0 == 3) = false := by simpa using g3
          have g4 : (u0 == 4) = false := by simpa using g4
          have g5 : (u0 == 5) = false := by simpa using g5
          go_wp2_with fail
          go_meet
          exact ⟨q, S, F, rfl, HS, HF, HX, HR, HB, HQ⟩
      case rest =>
        clear HS HF HX HR HB HQ HOR HGQ HQD HDQ
        obtain ⟨q, S, F, rfl, HS, HF, HX, HR, HB, HQ⟩ := hcut
        have HOR := Lib.hid HS.out.or
        obtain ⟨M, hM⟩ : ∃ t, N + be = t := ⟨_, rfl⟩
        have e1 : IntKind.i64.wrap (N + be) = M := by rw [hM]; exact IntWalk.i64_in _ (by omega)
        have hM1 : 0 ≤ M ∧ M ≤ 2147483647 := by omega
        have HRC := Lib.hid (fun (x : World) => rcheck_any T G S F N x (by omega) hT9 (by omega) hG9 hM0 (by omega))
        have HRD := Lib.hid (fun (x : World) => rcheck_any T G S F M x (by omega) hT9 (by omega) hG9 hM1.1 hM1.2)
        have HXC := Lib.hid (fun (x : World) (hx : GdT x q T G S F) => checkT N hx (by omega))
        have HXD := Lib.hid (fun (x : World) (hx : GdT x q T G S F) => checkT M hx (by omega))
        have HAW := Lib.hid (fun (x : World) (hx : GdT x q T G S F) => awakeT hx HOR.out)
        have HX0 := Lib.hid HX.out.drew
        have HR0 := Lib.hid (HR.out.below (kD _))
        have HB0 := Lib.hid (kF (kD _) HB.out)
        have y0 := HR0.out.cells
        clear hM hM1
        generalize rcE T G S F N = V at *
        generalize rcE T G S F M = U at *
        have hvv : (V == V) = true := by simp
        have huu : (U == U) = true := by simp
        go_wp2_with fail
        by_cases hS : 0 ≤ S
        · simp only [decide_eq_true hS] at HAW
          go_region_held3 (fun x => x.cell? ⟨D, 0, none⟩ = some (.int .i64 T) ∧ x.cell? ⟨D, 1, none⟩ = some (.int .i64 G) ∧ x.cell? ⟨D, 2, none⟩ = some (.int .i64 S) ∧ x.cell? ⟨D, 3, none⟩ = some (.int .i64 F))
            (first | exact y0 | exact y1 | exact y2 | exact y3 | exact y4)
            (first
              | (go_at_call 15; (with_reducible refine (HAW.out _ ?hx).mono ?_); (case hx => exact HX0.out); rintro e w6 ⟨rfl, rfl⟩)
              | (go_at_call 16; (with_reducible refine (HXC.out _ ?hx).mono ?_); (case hx => exact HX0.out); rintro e w7 ⟨rfl, b7⟩; have HX7 := Lib.hid (HX0.out.below b7); have HR7 := Lib.hid (HR0.out.below b7); have HB7 := Lib.hid (kF b7 HB0.out); have y1 := HR7.out.cells; clear b7)
              | (go_at_call 23; (with_reducible refine (HRC.out _).mono ?_); rintro e w8 ⟨rfl, b8⟩; have HX8 := Lib.hid (HX7.out.below b8); have HR8 := Lib.hid (HR7.out.below b8); have HB8 := Lib.hid (kF b8 HB7.out); have y2 := HR8.out.cells; clear b8)
              | (go_at_call 16; (with_reducible refine (HXD.out _ ?hx).mono ?_); (case hx => exact HX8.out); rintro e w9 ⟨rfl, b9⟩; have HX9 := Lib.hid (HX8.out.below b9); have HR9 := Lib.hid (HR8.out.below b9); have HB9 := Lib.hid (kF b9 HB8.out); have y3 := HR9.out.cells; clear b9)
              | (go_at_call 23; (with_reducible refine (HRD.out _).mono ?_); rintro e w10 ⟨rfl, b10⟩; have HX10 := Lib.hid (HX9.out.below b10); have HR10 := Lib.hid (HR9.out.below b10); have HB10 := Lib.hid (kF b10 HB9.out); have y4 := HR10.out.cells; clear b10))
          all_goals
            go_wp2_with fail
            exact ⟨⟨j + 1, q, N, S, F, by omega, rfl, rfl, by go_num, hM0, by omega, HS, HF, HX10, HR10, HB10, HQ⟩, by simp [intOf]; omega⟩
        · simp only [decide_eq_false hS] at HAW
          go_region_held3 (fun x => x.cell? ⟨D, 0, none⟩ = some (.int .i64 T) ∧ x.cell? ⟨D, 1, none⟩ = some (.int .i64 G) ∧ x.cell? ⟨D, 2, none⟩ = some (.int .i64 S) ∧ x.cell? ⟨D, 3, none⟩ = some (.int .i64 F))
            (first | exact y0 | exact y1 | exact y2 | exact y3 | exact y4)
            (first
              | (go_at_call 15; (with_reducible refine (HAW.out _ ?hx).mono ?_); (case hx => exact HX0.out); rintro e w6 ⟨rfl, rfl⟩)
              | (go_at_call 16; (with_reducible refine (HXC.out _ ?hx).mono ?_); (case hx => exact HX0.out); rintro e w7 ⟨rfl, b7⟩; have HX7 := Lib.hid (HX0.out.below b7); have HR7 := Lib.hid (HR0.out.below b7); have HB7 := Lib.hid (kF b7 HB0.out); have y1 := HR7.out.cells; clear b7)
              | (go_at_call 23; (with_reducible refine (HRC.out _).mono ?_); rintro e w8 ⟨rfl, b8⟩; have HX8 := Lib.hid (HX7.out.below b8); have HR8 := Lib.hid (HR7.out.below b8); have HB8 := Lib.hid (kF b8 HB7.out); have y2 := HR8.out.cells; clear b8)
              | (go_at_call 16; (with_reducible refine (HXD.out _ ?hx).mono ?_); (case hx => exact HX8.out); rintro e w9 ⟨rfl, b9⟩; have HX9 := Lib.hid (HX8.out.below b9); have HR9 := Lib.hid (HR8.out.below b9); have HB9 := Lib.hid (kF b9 HB8.out); have y3 := HR9.out.cells; clear b9)
              | (go_at_call 23; (with_reducible refine (HRD.out _).mono ?_); rintro e w10 ⟨rfl, b10⟩; have HX10 := Lib.hid (HX9.out.below b10); have HR10 := Lib.hid (HR9.out.below b10); have HB10 := Lib.hid (kF b10 HB9.out); have y4 := HR10.out.cells; clear b10))
          all_goals
            go_wp2_with fail
            exact ⟨⟨j + 1, q, N, S, F, by omega, rfl, rfl, by go_num, hM0, by omega, HS, HF, HX10, HR10, HB10, HQ⟩, by simp [intOf]; omega⟩
    · obtain rfl : j = K := by omega
      have hcs : ((n : Int) ≤ (j : Int)) ∨ ((j : Int) < (n : Int) ∧ (60 : Int) ≤ (j : Int)) := by have := HK.out; omega
      have HLV := Lib.hid (fun w => live28_any w)
      rcases hcs with hcs | ⟨hcs, hcs2⟩
      all_goals
        go_wp2_with (go_at_call 13; refine (HLV.out _).mono ?_; rintro e w9 ⟨rfl, b9⟩; have HB9 := Lib.hid (kF b9 HB.out); clear b9)
        go_ret
        exact ⟨rfl, HB9.out⟩
theorem plays_walk (T G : Int) (A : Option Addr) (n c : Nat) (be : Int) (fs : Nat → Int × Int) (w : World) (hbe : 0 ≤ be ∧ be ≤ 65535) (h : DesG w w.heap.size A n c fs) :
    Calls Try.prog 3 #[.int .i64 T, .int .i64 G, .slice A n c, .int .u16 be] w fun e w' => e = .returned (.bool true) ∧ Below w.heap.size w w' := by
  by_cases hT : 1 ≤ T ∧ T ≤ 65535
  · by_cases hG : 1 ≤ G ∧ G ≤ 65535
    · exact plays_yes T G A n c be fs w hT hG hbe h
    · exact plays_no T G A n c be w (by omega)
  · exact plays_no T G A n c be w (by omega)
end Go.Proofs.Ytphjdgapfcflgaa
