/- cons: the walk of ConsWell. -/
import Derived.Test.YtllaajkpobpeiaaOug
import Derived.Deep.LoopGhost
namespace Go.Proofs.Ytllaajkpobpeiaa
open Go.RowKit
set_option linter.unusedSimpArgs false
set_option linter.unusedVariables false

set_option maxRecDepth 100000 in
set_option maxHeartbeats 8000000 in
theorem cwell_walk (time gap : Int) (A : Option Addr) (n c : Nat) (fs : Nat → Int × Int × Int) (w : World) (h1 : 0 ≤ time ∧ time ≤ 255) (h2 : 0 ≤ gap ∧ gap ≤ 255) (h : ThsC w w.heap.size A n c fs) :
    Calls Try.prog 9 #[.int .u8 time, .int .u8 gap, .slice A n c] w fun e w' => e = .returned (.bool true) ∧ Below w.heap.size w w' := by
  have hcap := h.cap
  have hmax := h.max
  simp only [maxLen] at hmax
  obtain ⟨K, hKn, hK20, hK⟩ := upto_of n 20
  have HDS := Lib.hid h
  have HKK := Lib.hid hK
  clear h hK
  have c1 : IntKind.i64.wrap time = time := IntWalk.i64_in _ (by omega)
  have c2 : IntKind.i64.wrap gap = gap := IntWalk.i64_in _ (by omega)
  obtain ⟨t1, ht1⟩ : ∃ t, time.tmod 60 = t := ⟨_, rfl⟩
  have hb1 : 0 ≤ t1 ∧ t1 ≤ 59 := by rw [← ht1, Int.tmod_eq_emod_of_nonneg h1.1]; omega
  have c5 : IntKind.i64.wrap t1 = t1 := IntWalk.i64_in _ (by omega)
  obtain ⟨AA, hAA⟩ : ∃ t, 1 + t1 = t := ⟨_, rfl⟩
  have c6 : IntKind.i64.wrap (1 + t1) = AA := by rw [hAA]; exact IntWalk.i64_in _ (by omega)
  obtain ⟨t2, ht2⟩ : ∃ t, gap.tmod 60 = t := ⟨_, rfl⟩
  have hb2 : 0 ≤ t2 ∧ t2 ≤ 59 := by rw [← ht2, Int.tmod_eq_emod_of_nonneg h2.1]; omega
  have c7 : IntKind.i64.wrap t2 = t2 := IntWalk.i64_in _ (by omega)
  obtain ⟨BB, hBB⟩ : ∃ t, 1 + t2 = t := ⟨_, rfl⟩
  have c8 : IntKind.i64.wrap (1 + t2) = BB := by rw [hBB]; exact IntWalk.i64_in _ (by omega)
  have hA1 : 1 ≤ AA := by omega
  have hA2 : AA ≤ 60 := by omega
  have hB1 : 1 ≤ BB := by omega
  have hB2 : BB ≤ 60 := by omega
  obtain ⟨MM, hMM⟩ : ∃ t, (if BB < AA then BB else AA) = t := ⟨_, rfl⟩
  have hM : 1 ≤ MM ∧ MM ≤ AA ∧ MM ≤ BB := by rw [← hMM]; split <;> omega
  obtain ⟨hM0, hM1, hM2⟩ := hM
  have hMn : min AA BB = MM := by rw [← hMM]; split <;> omega
  have c9 : IntKind.i64.wrap (MM + 1) = MM + 1 := IntWalk.i64_in _ (by omega)
  have tz : ¬ MM + 1 = 0 := by omega
  clear h1 h2 hb1 hb2 hAA hBB
  have HTA := Lib.hid (tableC_any AA BB w)
  have HIC : Hid ((Try.prog.info? 29).map (·.size) = some (chA (tabC AA BB)).size) := Lib.hid info_chan
  have H1X := Lib.hid (chA_one (tabC AA BB))
  have HE0 : Hid ((chA c0X).size = (chA (tabC AA BB)).size) := Lib.hid rfl
  have HTK := Lib.hid (tabC_takes (time := AA) (gap := BB) (by omega) (by omega))
  have HSZ : Hid ((szX (tabC AA BB)).toNat = 1) := Lib.hid (by rw [tabC_size]; rfl)
  have HIF : Hid ((Try.prog.info? 57).map (·.size) = some 11) := Lib.hid info_frame
  go_enter Try.func9, Try.ntmps9
  go_upto_region 2 with (first
    | (go_at_call 39; refine (HTA.out).mono ?_; rintro e w1 ⟨rfl, b1⟩; have HB1 := Lib.hid b1; have HZ1 : Hid ((w1.alloc (.cells (chA c0X) 29)).heap[w1.heap.size]? = some (.cells (chA c0X) 29 (0, 0))) := Lib.hid (heap_alloc_new w1 _); clear b1)
    | (refine wpList_store_row rfl _ (.tmp 7) (.tmp 31) rfl w1.heap.size _ rfl rfl _ _ HZ1.out HIC.out HE0.out H1X.out ?_))
  have HY1 : Hid (ChAt ((w1.alloc (.cells (chA c0X) 29)).setRow w1.heap.size (chA (tabC AA BB))) w1.heap.size (tabC AA BB)) := Lib.hid (setRow_heap _ _ _ _ _ (0, 0) HZ1.out)
  have HB2 : Hid (Below w.heap.size w ((w1.alloc (.cells (chA c0X) 29)).setRow w1.heap.size (chA (tabC AA BB)))) := Lib.hid (below_setRow (HB1.out.alloc HB1.out.size _) HB1.out.size _)
  clear HZ1 HB1 HTA H1X HE0
  change Code.wp _ _ _ _ ((w1.alloc (.cells (chA c0X) 29)).setRow w1.heap.size (chA (tabC AA BB)))
  generalize (w1.alloc (.cells (chA c0X) 29)).setRow w1.heap.size (chA (tabC AA BB)) = w2 at *
  generalize w1.heap.size = tb at *
  go_upto_region 3 with (go_at_call 28; refine (cnewT w2).mono ?_; rintro e w3 ⟨t, ht, rfl, hr, b3⟩; have HT3 := Lib.hid hr; have HB3 := Lib.hid (kF b3 HB2.out); have HC3 := Lib.hid (HY1.out.below b3); have HTL := Lib.hid (Nat.le_trans HB2.out.size ht); clear hr b3 ht)
  clear HY1 HB2
  go_upto_region 5 with (first
    | (refine wpList_load_row rfl _ (.tmp 7) rfl tb rfl _ _ _ _ HC3.out Try.underlying29 rfl HIC.out ?_)
    | (go_at_call 30; refine (bg_new 7 (tabC AA BB) HT3.out HTK.out (by omega)).mono ?_; rintro e w4 ⟨k, ck, gd, hcg, rfl, hw4, o4⟩; rw [HSZ.out] at hw4; have HP4 : Hid (WlP w.heap.size w4 t AA BB none [] 7 (-1)) := Lib.hid ⟨k, ck, gd, hw4, ⟨Nat.le_trans HB3.out.size hcg.1, Nat.le_trans HB3.out.size hcg.2⟩⟩; have HC4 := Lib.hid (show ChAt w4 tb (tabC AA BB) from (o4.oth _ (Array.getElem?_eq_some_iff.1 HC3.out).1 (ne_ty HC3.out HT3.out (by decide))).trans HC3.out); have HB4 := Lib.hid (HB3.out.trans (o4.from_ HTL.out)); clear hcg hw4 o4))
  clear HT3 HC3 HB3 HTK HSZ c1 c2 c5 c6 c7 c8 ht1 ht2
  go_wp2_with fail
  go_loopw [9, 10] (fun nw i wr => ∃ (j : Nat) (N : Int), j ≤ K ∧ nw = .int .i64 N ∧ i = .int .i64 j ∧ 0 ≤ N ∧ N ≤ 7 + 120 * (j : Int) ∧ Hid (∃ v, WlP w.heap.size wr t AA BB none v N (-1)) ∧ Hid (ChAt wr tb (tabC AA BB)) ∧ Hid (Below w.heap.size w wr)) (fun _ i _ => 40 - (intOf i).toNat)
  case atStart => exact ⟨0, 7, by omega, rfl, rfl, by omega, by omega, Lib.hid ⟨[], HP4.out⟩, HC4, HB4⟩
  case round =>
    clear HP4 HC4 HB4
    obtain ⟨j, N, hj, rfl, rfl, hN0, hN9, HX, HC, HB⟩ := hrel
    by_cases hlt : j < K
    · have hlt' : j < n := by omega
      obtain ⟨bk, off, rfl, hbb, hcl⟩ := HDS.out.cells (by omega)
      have hf := hcl j hlt'
      generalize fs j = x at hf
      obtain ⟨u0, u1, u2⟩ := x
      have HCL := Lib.hid (fun (y : World) (hy : Below w.heap.size w y) => hf.below hbb hy)
      obtain ⟨_, _, _, ⟨hu0, hu1⟩, ⟨hv0, hv1⟩, hb⟩ := hf
      simp only at hu0 hu1 hv0 hv1 hb
      obtain ⟨k0, k1, k2, _⟩ := HCL.out wr HB.out
      simp only at k0 k1 k2
      have hjn : (j : Int) < (n : Int) := by omega
      have hj30 : (j : Int) < 20 := by omega
      have d1 : IntKind.i64.wrap u0 = u0 := IntWalk.i64_in _ (by omega)
      have d2 : IntKind.i64.wrap u1 = u1 := IntWalk.i64_in _ (by omega)
      obtain ⟨Y, hY⟩ : ∃ t, u1.tmod (MM + 1) = t := ⟨_, rfl⟩
      have hY0 : 0 ≤ Y ∧ Y ≤ MM := by
        rw [← hY, Int.tmod_eq_emod_of_nonneg hv0]
        have q1 := Int.emod_nonneg u1 (show MM + 1 ≠ 0 by omega)
        have q2 := Int.emod_lt_of_pos u1 (show 0 < MM + 1 by omega)
        omega
      have d3 : IntKind.i64.wrap Y = Y := IntWalk.i64_in _ (by omega)
      obtain ⟨R, hR⟩ : ∃ t, AA - Y = t := ⟨_, rfl⟩
      have d4 : IntKind.i64.wrap (AA - Y) = R := by rw [hR]; exact IntWalk.i64_in _ (by omega)
      have d5 : IntKind.i64.wrap (R + 1) = R + 1 := IntWalk.i64_in _ (by omega)
      have tz2 : ¬ R + 1 = 0 := by omega
      obtain ⟨X, hX⟩ : ∃ t, u0.tmod (R + 1) = t := ⟨_, rfl⟩
      have hX0 : 0 ≤ X ∧ X ≤ R := by
        rw [← hX, Int.tmod_eq_emod_of_nonneg hu0]
        have q1 := Int.emod_nonneg u0 (show R + 1 ≠ 0 by omega)
        have q2 := Int.emod_lt_of_pos u0 (show 0 < R + 1 by omega)
        omega
      have d6 : IntKind.i64.wrap X = X := IntWalk.i64_in _ (by omega)
      obtain ⟨Z, hZ⟩ : ∃ t, X + Y = t := ⟨_, rfl⟩
      have d7 : IntKind.i64.wrap (X + Y) = Z := by rw [hZ]; exact IntWalk.i64_in _ (by omega)
      have d8 : IntKind.i64.wrap (N + Z) = N + Z := IntWalk.i64_in _ (by omega)
      have hZ0 : 0 ≤ Z ∧ Z ≤ AA ∧ X ≤ Z ∧ Z ≤ X + BB := by omega
      obtain ⟨hZ0, hZ1, hZ2, hZ3⟩ := hZ0
      obtain ⟨hX0, _⟩ := hX0
      have a1 : wr.cell? ⟨tb, 1, none⟩ = some (.int .i64 AA) := HC.out.cells.2.1
      have a2 : wr.cell? ⟨tb, 2, none⟩ = some (.int .i64 BB) := HC.out.cells.2.2.1
      clear hcl hu0 hu1 hv0 hv1 hR hZ hMM
      go_upto_region 8 with fail
      clear k0 k2
      go_quiet (fail)
      clear k1 a1 a2 d2 c9 tz hMn hY d3 hY0
      have hbq : Below wr.heap.size wr (wr.drewN nq) := below_drewN (Below.refl _ _) _
      have HX1 : Hid (∃ v, WlP w.heap.size (wr.drewN nq) t AA BB none v N (-1)) := Lib.hid (by obtain ⟨v, hv⟩ := HX.out; exact ⟨v, hv.below hbq⟩)
      have HC1 := Lib.hid (HC.out.below hbq)
      have HB1 := Lib.hid (kF hbq HB.out)
      clear hbq HX HC HB
      generalize wr.drewN nq = wa at *
      clear wr
      go_upto_region 9 with fail
      have k0 := (HCL.out wa HB1.out).1
      have a1 : wa.cell? ⟨tb, 1, none⟩ = some (.int .i64 AA) := HC1.out.cells.2.1
      simp only at k0
      go_quiet (fail)
      clear k0 a1 d1 d4 d5 tz2 hX d6
      have hbq : Below wa.heap.size wa (wa.drewN nq) := below_drewN (Below.refl _ _) _
      have HX2 : Hid (∃ v, WlP w.heap.size (wa.drewN nq) t AA BB none v N (-1)) := Lib.hid (by obtain ⟨v, hv⟩ := HX1.out; exact ⟨v, hv.below hbq⟩)
      have HC2 := Lib.hid (HC1.out.below hbq)
      have HB2 := Lib.hid (kF hbq HB1.out)
      clear hbq HX1 HC1 HB1
      generalize wa.drewN nq = wb at *
      clear wa
      have k2 := (HCL.out wb HB2.out).2.2.1
      simp only at k2
      go_upto_region 11 with fail
      clear k2
      have HY3 : Hid ((wb.alloc (.cells #[.int .u8 u2] 5)).heap[wb.heap.size]? = some (.cells #[.int .u8 u2] 5 (0, 0))) := Lib.hid (heap_alloc_new wb _)
      have hba : Below wb.heap.size wb (wb.alloc (.cells #[.int .u8 u2] 5)) := (Below.refl _ _).alloc (Nat.le_refl _) _
      have HX3 : Hid (∃ v, WlP w.heap.size (wb.alloc (.cells #[.int .u8 u2] 5)) t AA BB none v N (-1)) := Lib.hid (by obtain ⟨v, hv⟩ := HX2.out; exact ⟨v, hv.below hba⟩)
      have HC3 := Lib.hid (HC2.out.below hba)
      have HB3 := Lib.hid (kF hba HB2.out)
      clear hba HX2 HC2 HB2
      generalize wb.alloc (.cells #[.int .u8 u2] 5) = wc at *
      generalize wb.heap.size = gb at *
      have a3 : wc.cell? ⟨tb, 3, none⟩ = some (.int .i64 257) := HC3.out.cells.2.2.2.1
      have a4 : wc.cell? ⟨tb, 4, none⟩ = some (.int .i64 258) := HC3.out.cells.2.2.2.2.1
      have HMK := Lib.hid (wl_make HY3.out hb)
      go_upto_region 12 with (go_at_call 41; refine (HMK.out).mono ?_; rintro e wd ⟨fb, rfl, hT, b4⟩; have HKd := Lib.hid (show WlK w wd tb fb gb AA BB u2 from ⟨HC3.out.below b4, hT, (b4.block _ (Array.getElem?_eq_some_iff.1 HY3.out).1).trans HY3.out, kF b4 HB3.out⟩); have HXd : Hid (WlS w wd t AA BB N X Z u2 ((0 : Nat) : Int)) := Lib.hid (by obtain ⟨v, hv⟩ := HX3.out; exact ws_start (hv.below b4) hX0); clear hT b4)
      clear a3 a4 HY3 HX3 HC3 HB3 HMK
      go_wp2_with fail
      go_loopw [16] (fun k2 wr => ∃ k : Nat, (k : Int) ≤ Z + 1 ∧ k2 = .int .i64 k ∧ Hid (WlS w wr t AA BB N X Z u2 k) ∧ Hid (WlK w wr tb fb gb AA BB u2)) (fun k _ => 130 - (intOf k).toNat)
      case atStart => exact ⟨0, by omega, rfl, HXd, HKd⟩
      case round =>
      clear HXd HKd
      obtain ⟨k, hk, rfl, HS, HK⟩ := hrel
      by_cases hkz : (k : Int) ≤ Z
      · have f1 : IntKind.i64.wrap (N + (k : Int)) = N + (k : Int) := IntWalk.i64_in _ (by omega)
        have HBE := Lib.hid (ws_begin HS.out HK.out HTL.out (by omega) (by omega) (by omega) (by omega) hX0 hZ1 hZ3)
        have hcase : (0 < k ∧ (0 : Int) < (k : Int)) ∨ (0 < j ∧ (0 : Int) < (j : Int) ∧ ¬ 0 < k ∧ ¬ (0 : Int) < (k : Int)) ∨ (¬ 0 < j ∧ ¬ (0 : Int) < (j : Int) ∧ ¬ 0 < k ∧ ¬ (0 : Int) < (k : Int)) := by omega
        have HKZ := Lib.hid hkz
        obtain ⟨FX1, hFX1⟩ : ∃ t, frA 257 false ((1 : Nat) : Int) (dOf [u2]) = t := ⟨_, rfl⟩
        obtain ⟨FX2, hFX2⟩ : ∃ t, frA 258 false ((1 : Nat) : Int) (dOf (flipL [u2])) = t := ⟨_, rfl⟩
        have HM1 : Hid (∀ y, WlK w y tb fb gb AA BB u2 → y.rangeAt fb 0 FX1.toList) := Lib.hid (by rw [← hFX1]; exact fun y h => h.mid1)
        have HM2 : Hid (∀ y, WlK w y tb fb gb AA BB u2 → y.rangeAt fb 11 FX2.toList) := Lib.hid (by rw [← hFX2]; exact fun y h => h.mid2)
        have HI1 : Hid ((Try.prog.info? 57).map (·.size) = some FX1.toList.length) := Lib.hid (by rw [← hFX1]; exact info_frame)
        have HI2 : Hid ((Try.prog.info? 57).map (·.size) = some FX2.toList.length) := Lib.hid (by rw [← hFX2]; exact info_frame)
        have HH1 : Hid ((k : Int) = X → ∀ y, WlS w y t AA BB N X Z u2 k → WlK w y tb fb gb AA BB u2 → Calls Try.prog 32 #[.pointer (some ⟨t, 0, none⟩), .int .i64 (N + (k : Int)), .agg FX1] y fun e w' => e = .returned (.tuple #[.slice none 0 0, .int .i64 0]) ∧ WlM w w' t AA BB N X u2 ∧ WlK w w' tb fb gb AA BB u2) := Lib.hid (by rw [← hFX1]; exact fun hx y h h' => ws_hear1 h h' HTL.out hb (by omega) (by omega) hx hZ2)
        have HH2 : Hid ((k : Int) = Z → ∀ y, WlM w y t AA BB N X u2 → WlK w y tb fb gb AA BB u2 → Calls Try.prog 32 #[.pointer (some ⟨t, 0, none⟩), .int .i64 (N + (k : Int)), .agg FX2] y fun e w' => ∃ A c, e = .returned (.tuple #[.slice A 1 c, .int .i64 0]) ∧ Byt w' w'.heap.size A 1 c [u2] ∧ WlS w w' t AA BB N X Z u2 ((k : Int) + 1) ∧ WlK w w' tb fb gb AA BB u2) := Lib.hid (by rw [← hFX2]; exact fun hx y h h' => wm_hear2 h h' HTL.out hb (by omega) (by omega) hx)
        clear hFX1 hFX2
        rcases hcase with ⟨g1, g2⟩ | ⟨g1, g2, g3, g4⟩ | ⟨g1, g2, g3, g4⟩
        · skip
          go_upto_region 19 with (first | (have _hh := HK.out.ch; refine wpList_load_row_want (by kernel_rfl) _ (.tmp 7) rfl tb rfl _ _ _ _ HK.out.ch Try.underlying29 rfl HIC.out ?_) | (go_at_call 30; refine (HBE.out).mono ?_; rintro e w4 ⟨rfl, hs4, hk4⟩; have HS4 := Lib.hid hs4; have HK4 := Lib.hid hk4; clear hs4 hk4))
          clear HBE HS HK
          by_cases hkx : (k : Int) = X
          · have hke : ((k : Int) == X) = true := by simpa using hkx
            have HKX := Lib.hid hkx
            by_cases hkz2 : (k : Int) = Z
            · have hke2 : ((k : Int) == Z) = true := by simpa using hkz2
              have HK2 := Lib.hid hkz2
              have HH2 := Lib.hid (HH2.out hkz2)
              have HH1 := Lib.hid (HH1.out hkx)
              clear hkx hkz2 hkz
              go_upto_region 21 with (first | (refine wpList_load_mid rfl _ (.tmp 120) rfl fb 0 rfl FX1.toList _ (HM1.out _ HK4.out) Try.underlying57 rfl HI1.out ?_; (try simp only [Array.toArray_toList])) | (go_at_call 32; refine (HH1.out _ HS4.out HK4.out).mono ?_; rintro e w5 ⟨rfl, hm5, hk5⟩; have HM5 := Lib.hid hm5; have HK5 := Lib.hid hk5; clear hm5 hk5))
              go_upto_region 24 with fail
              go_upto_region 25 with (first | (refine wpList_load_mid rfl _ (.tmp 143) rfl fb 11 rfl FX2.toList _ (HM2.out _ HK5.out) Try.underlying57 rfl HI2.out ?_; (try simp only [Array.toArray_toList])) | (go_at_call 32; refine (HH2.out _ HM5.out HK5.out).mono ?_; rintro e w6 ⟨VA, vc, rfl, hy6, hs6, hk6⟩; have HS6 := Lib.hid hs6; have HK6 := Lib.hid hk6; have hst := run_str 43 5 Try.underlying43 Try.underlying5 hy6 9 Try.underlying9; have hst2 := run_str 43 5 Try.underlying43 Try.underlying5 (hk6.own hb) 9 Try.underlying9; clear hs6 hk6 hy6))
              clear HH1 HH2 HM1 HM2
              go_wp2_with fail
              exact ⟨⟨k + 1, by have := HKZ.out; omega, by go_num, Lib.hid (by rw [show ((k + 1 : Nat) : Int) = (k : Int) + 1 by omega]; exact HS6.out), HK6⟩, by have := HKZ.out; simp [intOf]; omega⟩
            · have hke2 : ((k : Int) == Z) = false := by simpa using hkz2
              have HK2 := Lib.hid hkz2
              have HH1 := Lib.hid (HH1.out hkx)
              clear hkx hkz2 hkz
              go_upto_region 21 with (first | (refine wpList_load_mid rfl _ (.tmp 120) rfl fb 0 rfl FX1.toList _ (HM1.out _ HK4.out) Try.underlying57 rfl HI1.out ?_; (try simp only [Array.toArray_toList])) | (go_at_call 32; refine (HH1.out _ HS4.out HK4.out).mono ?_; rintro e w5 ⟨rfl, hm5, hk5⟩; have HM5 := Lib.hid hm5; have HK5 := Lib.hid hk5; clear hm5 hk5))
              clear HH1 HH2 HM1 HM2
              go_wp2_with fail
              have q1 := HKX.out; have q2 := HK2.out; have q3 := HKZ.out; exact ⟨⟨k + 1, by have := HKZ.out; omega, by go_num, Lib.hid (by rw [show ((k + 1 : Nat) : Int) = (k : Int) + 1 by omega]; exact wm_next HM5.out (by omega) (by omega)), HK5⟩, by have := HKZ.out; simp [intOf]; omega⟩
          · have hke : ((k : Int) == X) = false := by simpa using hkx
            have HKX := Lib.hid hkx
            by_cases hkz2 : (k : Int) = Z
            · have hke2 : ((k : Int) == Z) = true := by simpa using hkz2
              have HM4 := Lib.hid (ws_mid HS4.out (by omega) (by omega))
              have HH2 := Lib.hid (HH2.out hkz2)
              clear hkx hkz2 hkz
              go_upto_region 24 with fail
              go_upto_region 25 with (first | (refine wpList_load_mid rfl _ (.tmp 143) rfl fb 11 rfl FX2.toList _ (HM2.out _ HK4.out) Try.underlying57 rfl HI2.out ?_; (try simp only [Array.toArray_toList])) | (go_at_call 32; refine (HH2.out _ HM4.out HK4.out).mono ?_; rintro e w6 ⟨VA, vc, rfl, hy6, hs6, hk6⟩; have HS6 := Lib.hid hs6; have HK6 := Lib.hid hk6; have hst := run_str 43 5 Try.underlying43 Try.underlying5 hy6 9 Try.underlying9; have hst2 := run_str 43 5 Try.underlying43 Try.underlying5 (hk6.own hb) 9 Try.underlying9; clear hs6 hk6 hy6))
              clear HH1 HH2 HM1 HM2
              go_wp2_with fail
              exact ⟨⟨k + 1, by have := HKZ.out; omega, by go_num, Lib.hid (by rw [show ((k + 1 : Nat) : Int) = (k : Int) + 1 by omega]; exact HS6.out), HK6⟩, by have := HKZ.out; simp [intOf]; omega⟩
            · have hke2 : ((k : Int) == Z) = false := by simpa using hkz2
              have HS5 := Lib.hid (ws_quiet HS4.out hkx (by omega) hZ2)
              clear hkx hkz2 hkz
              go_wp2_with fail
              exact ⟨⟨k + 1, by have := HKZ.out; omega, by go_num, Lib.hid (by rw [show ((k + 1 : Nat) : Int) = (k : Int) + 1 by omega]; exact HS5.out), HK4⟩, by have := HKZ.out; simp [intOf]; omega⟩
        · skip
          go_upto_region 19 with (first | (have _hh := HK.out.ch; refine wpList_load_row_want (by kernel_rfl) _ (.tmp 7) rfl tb rfl _ _ _ _ HK.out.ch Try.underlying29 rfl HIC.out ?_) | (go_at_call 30; refine (HBE.out).mono ?_; rintro e w4 ⟨rfl, hs4, hk4⟩; have HS4 := Lib.hid hs4; have HK4 := Lib.hid hk4; clear hs4 hk4))
          clear HBE HS HK
          by_cases hkx : (k : Int) = X
          · have hke : ((k : Int) == X) = true := by simpa using hkx
            have HKX := Lib.hid hkx
            by_cases hkz2 : (k : Int) = Z
            · have hke2 : ((k : Int) == Z) = true := by simpa using hkz2
              have HK2 := Lib.hid hkz2
              have HH2 := Lib.hid (HH2.out hkz2)
              have HH1 := Lib.hid (HH1.out hkx)
              clear hkx hkz2 hkz
              go_upto_region 21 with (first | (refine wpList_load_mid rfl _ (.tmp 120) rfl fb 0 rfl FX1.toList _ (HM1.out _ HK4.out) Try.underlying57 rfl HI1.out ?_; (try simp only [Array.toArray_toList])) | (go_at_call 32; refine (HH1.out _ HS4.out HK4.out).mono ?_; rintro e w5 ⟨rfl, hm5, hk5⟩; have HM5 := Lib.hid hm5; have HK5 := Lib.hid hk5; clear hm5 hk5))
              go_upto_region 24 with fail
              go_upto_region 25 with (first | (refine wpList_load_mid rfl _ (.tmp 143) rfl fb 11 rfl FX2.toList _ (HM2.out _ HK5.out) Try.underlying57 rfl HI2.out ?_; (try simp only [Array.toArray_toList])) | (go_at_call 32; refine (HH2.out _ HM5.out HK5.out).mono ?_; rintro e w6 ⟨VA, vc, rfl, hy6, hs6, hk6⟩; have HS6 := Lib.hid hs6; have HK6 := Lib.hid hk6; have hst := run_str 43 5 Try.underlying43 Try.underlying5 hy6 9 Try.underlying9; have hst2 := run_str 43 5 Try.underlying43 Try.underlying5 (hk6.own hb) 9 Try.underlying9; clear hs6 hk6 hy6))
              clear HH1 HH2 HM1 HM2
              go_wp2_with fail
              exact ⟨⟨k + 1, by have := HKZ.out; omega, by go_num, Lib.hid (by rw [show ((k + 1 : Nat) : Int) = (k : Int) + 1 by omega]; exact HS6.out), HK6⟩, by have := HKZ.out; simp [intOf]; omega⟩
            · have hke2 : ((k : Int) == Z) = false := by simpa using hkz2
              have HK2 := Lib.hid hkz2
              have HH1 := Lib.hid (HH1.out hkx)
              clear hkx hkz2 hkz
              go_upto_region 21 with (first | (refine wpList_load_mid rfl _ (.tmp 120) rfl fb 0 rfl FX1.toList _ (HM1.out _ HK4.out) Try.underlying57 rfl HI1.out ?_; (try simp only [Array.toArray_toList])) | (go_at_call 32; refine (HH1.out _ HS4.out HK4.out).mono ?_; rintro e w5 ⟨rfl, hm5, hk5⟩; have HM5 := Lib.hid hm5; have HK5 := Lib.hid hk5; clear hm5 hk5))
              clear HH1 HH2 HM1 HM2
              go_wp2_with fail
              have q1 := HKX.out; have q2 := HK2.out; have q3 := HKZ.out; exact ⟨⟨k + 1, by have := HKZ.out; omega, by go_num, Lib.hid (by rw [show ((k + 1 : Nat) : Int) = (k : Int) + 1 by omega]; exact wm_next HM5.out (by omega) (by omega)), HK5⟩, by have := HKZ.out; simp [intOf]; omega⟩
          · have hke : ((k : Int) == X) = false := by simpa using hkx
            have HKX := Lib.hid hkx
            by_cases hkz2 : (k : Int) = Z
            · have hke2 : ((k : Int) == Z) = true := by simpa using hkz2
              have HM4 := Lib.hid (ws_mid HS4.out (by omega) (by omega))
              have HH2 := Lib.hid (HH2.out hkz2)
              clear hkx hkz2 hkz
              go_upto_region 24 with fail
              go_upto_region 25 with (first | (refine wpList_load_mid rfl _ (.tmp 143) rfl fb 11 rfl FX2.toList _ (HM2.out _ HK4.out) Try.underlying57 rfl HI2.out ?_; (try simp only [Array.toArray_toList])) | (go_at_call 32; refine (HH2.out _ HM4.out HK4.out).mono ?_; rintro e w6 ⟨VA, vc, rfl, hy6, hs6, hk6⟩; have HS6 := Lib.hid hs6; have HK6 := Lib.hid hk6; have hst := run_str 43 5 Try.underlying43 Try.underlying5 hy6 9 Try.underlying9; have hst2 := run_str 43 5 Try.underlying43 Try.underlying5 (hk6.own hb) 9 Try.underlying9; clear hs6 hk6 hy6))
              clear HH1 HH2 HM1 HM2
              go_wp2_with fail
              exact ⟨⟨k + 1, by have := HKZ.out; omega, by go_num, Lib.hid (by rw [show ((k + 1 : Nat) : Int) = (k : Int) + 1 by omega]; exact HS6.out), HK6⟩, by have := HKZ.out; simp [intOf]; omega⟩
            · have hke2 : ((k : Int) == Z) = false := by simpa using hkz2
              have HS5 := Lib.hid (ws_quiet HS4.out hkx (by omega) hZ2)
              clear hkx hkz2 hkz
              go_wp2_with fail
              exact ⟨⟨k + 1, by have := HKZ.out; omega, by go_num, Lib.hid (by rw [show ((k + 1 : Nat) : Int) = (k : Int) + 1 by omega]; exact HS5.out), HK4⟩, by have := HKZ.out; simp [intOf]; omega⟩
        · skip
          go_upto_region 19 with fail
          have HS4 := HS; have HK4 := HK; clear HBE HS HK
          by_cases hkx : (k : Int) = X
          · have hke : ((k : Int) == X) = true := by simpa using hkx
            have HKX := Lib.hid hkx
            by_cases hkz2 : (k : Int) = Z
            · have hke2 : ((k : Int) == Z) = true := by simpa using hkz2
              have HK2 := Lib.hid hkz2
              have HH2 := Lib.hid (HH2.out hkz2)
              have HH1 := Lib.hid (HH1.out hkx)
              clear hkx hkz2 hkz
              go_upto_region 21 with (first | (refine wpList_load_mid rfl _ (.tmp 120) rfl fb 0 rfl FX1.toList _ (HM1.out _ HK4.out) Try.underlying57 rfl HI1.out ?_; (try simp only [Array.toArray_toList])) | (go_at_call 32; refine (HH1.out _ HS4.out HK4.out).mono ?_; rintro e w5 ⟨rfl, hm5, hk5⟩; have HM5 := Lib.hid hm5; have HK5 := Lib.hid hk5; clear hm5 hk5))
              go_upto_region 24 with fail
              go_upto_region 25 with (first | (refine wpList_load_mid rfl _ (.tmp 143) rfl fb 11 rfl FX2.toList _ (HM2.out _ HK5.out) Try.underlying57 rfl HI2.out ?_; (try simp only [Array.toArray_toList])) | (go_at_call 32; refine (HH2.out _ HM5.out HK5.out).mono ?_; rintro e w6 ⟨VA, vc, rfl, hy6, hs6, hk6⟩; have HS6 := Lib.hid hs6; have HK6 := Lib.hid hk6; have hst := run_str 43 5 Try.underlying43 Try.underlying5 hy6 9 Try.underlying9; have hst2 := run_str 43 5 Try.underlying43 Try.underlying5 (hk6.own hb) 9 Try.underlying9; clear hs6 hk6 hy6))
              clear HH1 HH2 HM1 HM2
              go_wp2_with fail
              exact ⟨⟨k + 1, by have := HKZ.out; omega, by go_num, Lib.hid (by rw [show ((k + 1 : Nat) : Int) = (k : Int) + 1 by omega]; exact HS6.out), HK6⟩, by have := HKZ.out; simp [intOf]; omega⟩
            · have hke2 : ((k : Int) == Z) = false := by simpa using hkz2
              have HK2 := Lib.hid hkz2
              have HH1 := Lib.hid (HH1.out hkx)
              clear hkx hkz2 hkz
              go_upto_region 21 with (first | (refine wpList_load_mid rfl _ (.tmp 120) rfl fb 0 rfl FX1.toList _ (HM1.out _ HK4.out) Try.underlying57 rfl HI1.out ?_; (try simp only [Array.toArray_toList])) | (go_at_call 32; refine (HH1.out _ HS4.out HK4.out).mono ?_; rintro e w5 ⟨rfl, hm5, hk5⟩; have HM5 := Lib.hid hm5; have HK5 := Lib.hid hk5; clear hm5 hk5))
              clear HH1 HH2 HM1 HM2
              go_wp2_with fail
              have q1 := HKX.out; have q2 := HK2.out; have q3 := HKZ.out; exact ⟨⟨k + 1, by have := HKZ.out; omega, by go_num, Lib.hid (by rw [show ((k + 1 : Nat) : Int) = (k : Int) + 1 by omega]; exact wm_next HM5.out (by omega) (by omega)), HK5⟩, by have := HKZ.out; simp [intOf]; omega⟩
          · have hke : ((k : Int) == X) = false := by simpa using hkx
            have HKX := Lib.hid hkx
            by_cases hkz2 : (k : Int) = Z
            · have hke2 : ((k : Int) == Z) = true := by simpa using hkz2
              have HM4 := Lib.hid (ws_mid HS4.out (by omega) (by omega))
              have HH2 := Lib.hid (HH2.out hkz2)
              clear hkx hkz2 hkz
              go_upto_region 24 with fail
              go_upto_region 25 with (first | (refine wpList_load_mid rfl _ (.tmp 143) rfl fb 11 rfl FX2.toList _ (HM2.out _ HK4.out) Try.underlying57 rfl HI2.out ?_; (try simp only [Array.toArray_toList])) | (go_at_call 32; refine (HH2.out _ HM4.out HK4.out).mono ?_; rintro e w6 ⟨VA, vc, rfl, hy6, hs6, hk6⟩; have HS6 := Lib.hid hs6; have HK6 := Lib.hid hk6; have hst := run_str 43 5 Try.underlying43 Try.underlying5 hy6 9 Try.underlying9; have hst2 := run_str 43 5 Try.underlying43 Try.underlying5 (hk6.own hb) 9 Try.underlying9; clear hs6 hk6 hy6))
              clear HH1 HH2 HM1 HM2
              go_wp2_with fail
              exact ⟨⟨k + 1, by have := HKZ.out; omega, by go_num, Lib.hid (by rw [show ((k + 1 : Nat) : Int) = (k : Int) + 1 by omega]; exact HS6.out), HK6⟩, by have := HKZ.out; simp [intOf]; omega⟩
            · have hke2 : ((k : Int) == Z) = false := by simpa using hkz2
              have HS5 := Lib.hid (ws_quiet HS4.out hkx (by omega) hZ2)
              clear hkx hkz2 hkz
              go_wp2_with fail
              exact ⟨⟨k + 1, by have := HKZ.out; omega, by go_num, Lib.hid (by rw [show ((k + 1 : Nat) : Int) = (k : Int) + 1 by omega]; exact HS5.out), HK4⟩, by have := HKZ.out; simp [intOf]; omega⟩
      · obtain hkk : (k : Int) = Z + 1 := by omega
        have HPE := Lib.hid (ws_end HS.out (by omega) hZ2)
        have HKZ := Lib.hid hkk
        clear hkk hk
        have HV := Lib.hid (wl_value HPE.out)
        go_wp2_with (go_at_call 35; refine (HV.out).mono ?_; rintro e w7 ⟨VA, vc, rfl, hy7, b7⟩; have HP7 := Lib.hid (HPE.out.below b7); have HK7 := Lib.hid (HK.out.below b7); have hst := run_str 43 5 Try.underlying43 Try.underlying5 hy7 9 Try.underlying9; have hst2 := run_str 43 5 Try.underlying43 Try.underlying5 (HK7.out.own hb) 9 Try.underlying9; clear hy7 b7)
        exact ⟨⟨j + 1, N + Z, by omega, rfl, by go_num, by omega, by omega, Lib.hid ⟨_, HP7.out⟩, Lib.hid HK7.out.ch, Lib.hid HK7.out.bel⟩, by simp [intOf]; omega⟩
    · obtain rfl : j = K := by omega
      have hcs : ((n : Int) ≤ (j : Int)) ∨ ((j : Int) < (n : Int) ∧ (20 : Int) ≤ (j : Int)) := by have := HKK.out; omega
      have HLV := Lib.hid (fun w => live30_any w)
      rcases hcs with hcs | ⟨hcs, hcs2⟩
      all_goals
        go_wp2_with (first
          | (go_at_call 38; refine (HLV.out _).mono ?_; rintro e w9 ⟨rfl, b9⟩; have HB9 := Lib.hid (kF b9 HB.out); obtain ⟨v9, hv9⟩ := HX.out; have HX9 := Lib.hid (hv9.below b9); clear b9 hv9)
          | (go_at_call 36; refine (wl_works HX9.out).mono ?_; rintro e wz ⟨rfl, rfl⟩))
        go_ret
        exact ⟨rfl, HB9.out⟩
end Go.Proofs.Ytllaajkpobpeiaa
