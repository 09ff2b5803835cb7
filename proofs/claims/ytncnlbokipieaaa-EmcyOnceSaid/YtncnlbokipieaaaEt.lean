/- emcy: the walk of EmcyOnce. -/
import Derived.Test.YtncnlbokipieaaaEs
import Derived.Test.YtncnlbokipieaaaEj
import Derived.Deep.CutBlock
import Derived.Deep.LoopGhost
namespace Go.Proofs.Ytncnlbokipieaaa
open Go.RowKit Go.Maps
set_option linter.unusedSimpArgs false
set_option linter.unusedVariables false

theorem hist_first {T : Nat → Prop} {w0 x : World} {g B q N c : Nat} {D : DataW Unit} {A : Option Addr} {lost nd td : Int} {F : List (Int × Int)} {hs : List Int} {v : Int} {M : Nat} (h : LgI T w0 x g B q N D A c lost nd F (hsE hs v) td) (hM : (hsE hs v).length = M) (h0 : 0 < M) :
    Calls Try.prog 17 #[.pointer (some ⟨g, 0, none⟩)] x fun e w' => ∃ b5 o5 c5, e = .returned (.slice (some ⟨b5, o5, none⟩) M c5) ∧ w'.cell? ⟨b5, o5, none⟩ = some (.int .i64 v) ∧ Below x.heap.size x w' ∧ M ≤ c5 := by
  refine (hist_in T w0 x g B q N c D A lost nd td F (hsE hs v) h).mono ?_
  rintro e w' ⟨A', c', rfl, hq, hb⟩
  subst hM
  obtain ⟨b5, o5, rfl⟩ := hq.addr (by have := hq.cap; omega)
  refine ⟨b5, o5, c', rfl, ?_, hb, hq.cap⟩
  have := hq.cell rfl (j := 0) h0
  obtain ⟨r, hr⟩ := hsE_first hs v
  rw [hr] at this
  simpa using this
theorem raise_frame (w : World) (g B q nn c1 : Nat) (T : Nat → Prop) (D : DataW Unit) (A : Option Addr) (F : List (Int × Int)) (hs : List Int) (v : Int) (b : Nat) (x : World) (h : (LgI T w x g B q nn D A c1 0 1 F hs (nn : Int))) (hv1 : 1 ≤ v) (hv2 : v ≤ 65535) (hq : fhas F v = false) (hb : b < 8) (hl : F.length = nn) (hn : nn ≤ 30) :
    ∃ d : Nat → Int, Calls Try.prog 12 #[.pointer (some ⟨g, 0, none⟩), .int .i64 v, .int .i64 (b : Int), .slice none 0 0] x fun e w' => e = .returned (.tuple #[.agg #[.int .i64 129, .bool false, .int .i64 8, .int .u8 (d 0), .int .u8 (d 1), .int .u8 (d 2), .int .u8 (d 3), .int .u8 (d 4), .int .u8 (d 5), .int .u8 (d 6), .int .u8 (d 7)], .bool true]) ∧ RaiseP T w x g B q nn c1 D A 0 1 (nn : Int) F hs v b 0 [] w' :=
  ⟨dOf [v % 256, v / 256, rgN (F ++ [(v, (b : Int))]) 8, infE 0 [] 0, infE 0 [] 1, infE 0 [] 2, infE 0 [] 3, infE 0 [] 4], raise_ok T w x g B q nn c1 D A 0 1 (nn : Int) F hs v b none 0 0 [] h (by decide) (by unfold isCd; exact decide_eq_true (by omega)) (by omega) hq hb (by omega) (by omega) (by omega) (Byt.nil_ _ _)⟩
theorem told_same {T : Nat → Prop} {w0 x : World} {g B q N c : Nat} {D : DataW Unit} {A : Option Addr} {lost nd td : Int} {F : List (Int × Int)} {hs : List Int} (h : LgI T w0 x g B q N D A c lost nd F hs td) : Calls Try.prog 18 #[.pointer (some ⟨g, 0, none⟩)] x fun e w' => e = .returned (.int .i64 td) ∧ x = w' :=
  (told_in T w0 x g B q N c D A lost nd td F hs h).mono fun e w' h => ⟨h.1, h.2.symm⟩
set_option maxRecDepth 200000 in
set_option maxHeartbeats 8000000 in
theorem once_walk (Al : Option Addr) (n c : Nat) (z : List Int) (w : World) (hz : Nums w w.heap.size Al n c z) : Calls Try.prog 5 #[.slice Al n c] w fun e w' => e = .returned (.bool true) ∧ Below w.heap.size w w' := by
  obtain ⟨k, hk⟩ : ∃ k : Nat, min n 30 = k := ⟨_, rfl⟩
  have hmin : min (n : Int) 30 = (k : Int) := by omega
  have hkn : k ≤ n := by omega
  have hk30 : k ≤ 30 := by omega
  have hcap := hz.cap
  have hmax := hz.max
  simp only [maxLen] at hmax
  have hkc : k ≤ c := by omega
  have HZ := Lib.hid hz
  clear hz hk
  go_enter Try.func5, Try.ntmps5
  go_upto_region 5 with (go_at_call 11; refine (emnew_ok w _ 1 (by decide) (Below.refl _ _)).mono ?_; rintro e w1 ⟨g, B, q, rfl, hm1, hb1⟩; have HM1 := Lib.hid hm1; clear hm1 hb1)
  clear hmin
  go_wp2_with fail
  go_loopw [5, 6] (fun s5 s6 wr => ∃ (j nn c1 : Nat) (T : Nat → Prop) (F : List (Int × Int)) (hs : List Int) (D : DataW Unit) (A : Option Addr), j ≤ k ∧ s5 = .int .i64 (nn : Int) ∧ s6 = .int .i64 (j : Int) ∧ Hid (OnI w g B q z j nn T F hs c1 D A wr)) (fun _ i _ => 40 - (intOf i).toNat)
  case atStart => exact ⟨0, 0, 0, _, [], [], .map [], none, Nat.zero_le _, rfl, rfl, Lib.hid ⟨HM1.out, rfl, Nat.le_refl _, rfl, by simp⟩⟩
  case round =>
    obtain ⟨j, nn, c1, T, F, hs, D, A, hj, rfl, rfl, HO⟩ := hrel
    by_cases hlt : (j : Int) < k
    · have hjk : j < k := by omega
      obtain ⟨bl, off, rfl, hbl, hcl⟩ := HZ.out.cells (by omega)
      obtain ⟨v, hv⟩ : ∃ v, z.getD j 0 = v := ⟨_, rfl⟩
      have hrg : -9223372036854775808 ≤ v ∧ v ≤ 9223372036854775807 := by
        have hl := HZ.out.len
        rw [← hv, List.getD_eq_getElem?_getD, List.getElem?_eq_getElem (by omega)]
        exact HZ.out.rng _ (List.getElem_mem _)
      have hy : (Lit.int .i64 v).wf = true := WalkArith.wf_i64 hrg
      have HCZ := Lib.hid (show ∀ y, Below w.heap.size w y → y.cell? ⟨bl, off + j, none⟩ = some (.int .i64 v) from fun y hb => (hb.cell (p := ⟨bl, off + j, none⟩) hbl).trans (by rw [hcl j (by omega), hv]))
      have HV := Lib.hid hv
      clear hcl hrg hv
      obtain ⟨b, hbm⟩ : ∃ b : Nat, (j : Int).tmod 8 = (b : Int) := ⟨((j : Int).tmod 8).toNat, by have := Int.tmod_nonneg 8 (show (0 : Int) ≤ j by omega); omega⟩
      have hb8 : b < 8 := by have := Int.tmod_lt_of_pos (j : Int) (show (0 : Int) < 8 by omega); omega
      have c12 : IntKind.i64.wrap (b : Int) = (b : Int) := IntWalk.i64_in _ (by omega)
      have c13 : IntKind.i64.wrap (7 - (b : Int)) = 7 - (b : Int) := IntWalk.i64_in _ (by omega)
      by_cases hv1 : 1 ≤ v
      · by_cases hv2 : v ≤ 65535
        · cases hq : fhas F v with
          | true =>
            have hcond : fhas F v = true ∨ ¬ (1 ≤ v ∧ v ≤ 65535) := .inl hq
            have HH := Lib.hid (fun y (hl : (LgI T w y g B q nn D A c1 0 1 F hs (nn : Int))) => has_in T w y g B q nn c1 D A 0 1 (nn : Int) v F hs hl hy)
            rw [hq] at HH
            have HR := Lib.hid (fun y (hl : (LgI T w y g B q nn D A c1 0 1 F hs (nn : Int))) (bit : Int) => raise_not hl (bit := bit) hy hcond)
            clear hy hq hcond
            have cz := HCZ.out _ HO.out.log.bel
            go_upto_region 11 with (go_at_call 15; refine (HH.out _ HO.out.log).mono ?_; rintro e w2 ⟨rfl, rfl⟩)
            go_upto_region 12 with (first
              | (go_at_call 12; refine (HR.out _ HO.out.log _).mono ?_; rintro e y2 ⟨rfl, hb2⟩; have HL2 := Lib.hid (lg_step HO.out.log hb2 #[.int .i64 0, .bool false, .int .i64 0, .int .u8 0, .int .u8 0, .int .u8 0, .int .u8 0, .int .u8 0, .int .u8 0, .int .u8 0, .int .u8 0]); have HN2 := Lib.hid (frame_new y2 0 0 false (fun _ => 0)); clear hb2 cz)
              | (refine wpList_store_row rfl _ (.tmp 9) (.tmp 61) rfl y2.heap.size _ rfl rfl _ _ HN2.out info_frame rfl (one_frame 0 0 false (fun _ => 0)) ?_))
            clear HN2
            generalize (y2.alloc (.cells #[.int .i64 0, .bool false, .int .i64 0, .int .u8 0, .int .u8 0, .int .u8 0, .int .u8 0, .int .u8 0, .int .u8 0, .int .u8 0, .int .u8 0] 27)).setRow y2.heap.size #[.int .i64 0, .bool false, .int .i64 0, .int .u8 0, .int .u8 0, .int .u8 0, .int .u8 0, .int .u8 0, .int .u8 0, .int .u8 0, .int .u8 0] = w3 at *
            generalize y2.heap.size = gA at *
            have cz := HCZ.out _ HL2.out.bel
            go_upto_region 13 with (first
              | (go_at_call 12; refine (HR.out _ HL2.out _).mono ?_; rintro e y3 ⟨rfl, hb2⟩; have HL3 := Lib.hid (lg_step HL2.out hb2 #[.int .i64 0, .bool false, .int .i64 0, .int .u8 0, .int .u8 0, .int .u8 0, .int .u8 0, .int .u8 0, .int .u8 0, .int .u8 0, .int .u8 0]); have HN3 := Lib.hid (frame_new y3 0 0 false (fun _ => 0)); clear hb2 cz)
              | (refine wpList_store_row rfl _ (.tmp 11) (.tmp 73) rfl y3.heap.size _ rfl rfl _ _ HN3.out info_frame rfl (one_frame 0 0 false (fun _ => 0)) ?_))
            clear HN3 HL2
            generalize (y3.alloc (.cells #[.int .i64 0, .bool false, .int .i64 0, .int .u8 0, .int .u8 0, .int .u8 0, .int .u8 0, .int .u8 0, .int .u8 0, .int .u8 0, .int .u8 0] 27)).setRow y3.heap.size #[.int .i64 0, .bool false, .int .i64 0, .int .u8 0, .int .u8 0, .int .u8 0, .int .u8 0, .int .u8 0, .int .u8 0, .int .u8 0, .int .u8 0] = w4 at *
            generalize y3.heap.size = gB at *
            have cz := HCZ.out _ HL3.out.bel
            go_wp2_with (go_at_call 15; refine (HH.out _ HL3.out).mono ?_; rintro e w2 ⟨rfl, rfl⟩)
            go_roundw
            case rel => exact ⟨j + 1, nn, c1, T, F, hs, D, A, by omega, rfl, by go_num, Lib.hid (HO.out.skip HL3.out)⟩
            case measure => first | (simp [intOf]; done) | (simp [intOf]; omega)
          | false =>
            have hF1 : fhas (F ++ [(v, (b : Int))]) v = true := by rw [fhas_app]; simp
            have HH := Lib.hid (has_in T w _ g B q nn c1 D A 0 1 (nn : Int) v F hs HO.out.log hy)
            rw [hq] at HH
            obtain ⟨d, hd⟩ := raise_frame w g B q nn c1 T D A F hs v b _ HO.out.log hv1 hv2 hq hb8 HO.out.len (by have := HO.out.le; omega)
            have HRK := Lib.hid hd
            have HH1 := Lib.hid (fun N2 (T2 : Nat → Prop) c2 D2 A2 hs2 td2 y (hl : LgI T2 w y g B q N2 D2 A2 c2 0 1 (F ++ [(v, (b : Int))]) hs2 td2) => has_in T2 w y g B q N2 c2 D2 A2 0 1 td2 v (F ++ [(v, (b : Int))]) hs2 hl hy)
            rw [hF1] at HH1
            have HR1 := Lib.hid (fun N2 (T2 : Nat → Prop) c2 D2 A2 hs2 td2 y (hl : LgI T2 w y g B q N2 D2 A2 c2 0 1 (F ++ [(v, (b : Int))]) hs2 td2) (bit : Int) => raise_not hl (bit := bit) hy (.inl hF1))
            clear hy hq hd hF1
            obtain ⟨M, hM⟩ : ∃ M : Nat, min (nn + 1) 8 = M := ⟨_, rfl⟩
            have hM0 : 0 < M := by omega
            have hmn : min ((nn : Int) + 1) 8 = (M : Int) := by omega
            have HMl := Lib.hid ((hsE_len HO.out.hl v).trans hM)
            have HB8 := Lib.hid hb8
            have c14 : IntKind.i64.wrap ((nn : Int) + 1) = (nn : Int) + 1 := IntWalk.i64_in _ (by have := HO.out.le; omega)
            clear hM
            have cz := HCZ.out _ HO.out.log.bel
            go_upto_region 11 with (go_at_call 15; refine (HH.out).mono ?_; rintro e w2 ⟨rfl, rfl⟩)
            go_upto_region 12 with (first
              | (go_at_call 12; refine (HRK.out).mono ?_; rintro e y2 ⟨rfl, A2, c2, T2, hl2, _, _⟩; have HL2 := Lib.hid (lg_step hl2 (Below.refl _ _) #[.int .i64 129, .bool false, .int .i64 8, .int .u8 (d 0), .int .u8 (d 1), .int .u8 (d 2), .int .u8 (d 3), .int .u8 (d 4), .int .u8 (d 5), .int .u8 (d 6), .int .u8 (d 7)]); have HN2 := Lib.hid (frame_new y2 0 0 false (fun _ => 0)); clear hl2 cz)
              | (refine wpList_store_row rfl _ (.tmp 9) (.tmp 61) rfl y2.heap.size _ rfl rfl _ _ HN2.out info_frame rfl (one_frame 129 8 false d) ?_))
            clear HN2
            generalize (y2.alloc (.cells #[.int .i64 0, .bool false, .int .i64 0, .int .u8 0, .int .u8 0, .int .u8 0, .int .u8 0, .int .u8 0, .int .u8 0, .int .u8 0, .int .u8 0] 27)).setRow y2.heap.size #[.int .i64 129, .bool false, .int .i64 8, .int .u8 (d 0), .int .u8 (d 1), .int .u8 (d 2), .int .u8 (d 3), .int .u8 (d 4), .int .u8 (d 5), .int .u8 (d 6), .int .u8 (d 7)] = w3 at *
            generalize y2.heap.size = gA at *
            have cz := HCZ.out _ HL2.out.bel
            go_upto_region 13 with (first
              | (go_at_call 12; refine (HR1.out _ _ _ _ _ _ _ _ HL2.out _).mono ?_; rintro e y3 ⟨rfl, hb2⟩; have HL3 := Lib.hid (lg_step HL2.out hb2 #[.int .i64 0, .bool false, .int .i64 0, .int .u8 0, .int .u8 0, .int .u8 0, .int .u8 0, .int .u8 0, .int .u8 0, .int .u8 0, .int .u8 0]); have HN3 := Lib.hid (frame_new y3 0 0 false (fun _ => 0)); clear hb2 cz)
              | (refine wpList_store_row rfl _ (.tmp 11) (.tmp 73) rfl y3.heap.size _ rfl rfl _ _ HN3.out info_frame rfl (one_frame 0 0 false (fun _ => 0)) ?_))
            clear HN3 HL2
            generalize (y3.alloc (.cells #[.int .i64 0, .bool false, .int .i64 0, .int .u8 0, .int .u8 0, .int .u8 0, .int .u8 0, .int .u8 0, .int .u8 0, .int .u8 0, .int .u8 0] 27)).setRow y3.heap.size #[.int .i64 0, .bool false, .int .i64 0, .int .u8 0, .int .u8 0, .int .u8 0, .int .u8 0, .int .u8 0, .int .u8 0, .int .u8 0, .int .u8 0] = w4 at *
            generalize y3.heap.size = gB at *
            have cz := HCZ.out _ HL3.out.bel
            go_upto_region 17 with (go_at_call 15; refine (HH1.out _ _ _ _ _ _ _ _ HL3.out).mono ?_; rintro e w2 ⟨rfl, rfl⟩)
            go_upto_region 18 with (go_at_call 17; refine (hist_first HL3.out HMl.out hM0).mono ?_; rintro e w5 ⟨b5, o5, c5, rfl, hc5, hb5, hmc⟩; have HL5 := Lib.hid (HL3.out.below hb5); have HC5 := Lib.hid hc5; clear hb5 hc5 cz)
            have cz := HCZ.out _ HL5.out.bel
            refine wp_region_last (fun x => x.cell? ⟨b5, o5, none⟩ = some (.int .i64 v) ∧ x.cell? ⟨bl, off + j, none⟩ = some (.int .i64 v)) 20 (by kernel_rfl) ⟨HC5.out, cz⟩ (fun hHeld => ?_)
            have HL6 := Lib.hid (HL5.out.below (kD w5))
            have HS6 : Hid (w5.drew.cell? ⟨b5, o5, none⟩ = some (.int .i64 v) ∧ w5.drew.cell? ⟨bl, off + j, none⟩ = some (.int .i64 v)) := Lib.hid ⟨HC5.out, cz⟩
            clear HL5 HC5 cz
            generalize w5.drew = w6 at *
            have hodd : (rgN (F ++ [(v, (b : Int))]) 8).tmod 2 = 1 := rg_odd HB8.out (by rw [cnt_app, if_pos rfl]; have := (cnt_nonneg F b).1; omega)
            refine wpAnyL_take (i := 0) (v := .slice (some ⟨b5, o5, none⟩) M c5) rfl (by kernel_rfl) (by kernel_rfl) (by kernel_rfl) (by kernel_rfl) (by kernel_rfl) (fun _ _ _ h => h) (Or.inl ⟨by rfl, ?_⟩) (by assumption) ?_
            · intro wq hSw; obtain ⟨hsa, hsb⟩ := hSw; first | (go_simp; done) | (go_simp; with_reducible rfl) | with_reducible rfl
            try simp only [Act.put, List.setIfInBounds_toArray, List.set_cons_zero, List.set_cons_succ, List.getElem_toArray, List.getElem_cons_zero, List.getElem_cons_succ]
            refine wpAnyL_take (i := 1) (v := .int .i64 (M : Int)) rfl (by kernel_rfl) (by kernel_rfl) (by kernel_rfl) (by kernel_rfl) (by kernel_rfl) (fun _ _ _ h => h) (Or.inl ⟨by rfl, ?_⟩) (by assumption) ?_
            · intro wq hSw; obtain ⟨hsa, hsb⟩ := hSw; first | (go_simp; done) | (go_simp; with_reducible rfl) | with_reducible rfl
            try simp only [Act.put, List.setIfInBounds_toArray, List.set_cons_zero, List.set_cons_succ, List.getElem_toArray, List.getElem_cons_zero, List.getElem_cons_succ]
            refine wpAnyL_take (i := 2) (v := .int .i64 ((nn : Int) + 1)) rfl (by kernel_rfl) (by kernel_rfl) (by kernel_rfl) (by kernel_rfl) (by kernel_rfl) (fun _ _ _ h => h) (Or.inl ⟨by rfl, ?_⟩) (by assumption) ?_
            · intro wq hSw; obtain ⟨hsa, hsb⟩ := hSw; first | (go_simp; done) | (go_simp; with_reducible rfl) | with_reducible rfl
            try simp only [Act.put, List.setIfInBounds_toArray, List.set_cons_zero, List.set_cons_succ, List.getElem_toArray, List.getElem_cons_zero, List.getElem_cons_succ]
            refine wpAnyL_take (i := 3) (v := .int .i64 (M : Int)) rfl (by kernel_rfl) (by kernel_rfl) (by kernel_rfl) (by kernel_rfl) (by kernel_rfl) (fun _ _ _ h => h) (Or.inl ⟨by rfl, ?_⟩) (by assumption) ?_
            · intro wq hSw; obtain ⟨hsa, hsb⟩ := hSw; first | (go_simp; done) | (go_simp; with_reducible rfl) | with_reducible rfl
            try simp only [Act.put, List.setIfInBounds_toArray, List.set_cons_zero, List.set_cons_succ, List.getElem_toArray, List.getElem_cons_zero, List.getElem_cons_succ]
            refine wpAnyL_take (i := 4) (v := .bool false) rfl (by kernel_rfl) (by kernel_rfl) (by kernel_rfl) (by kernel_rfl) (by kernel_rfl) (fun _ _ _ h => h) (Or.inl ⟨by rfl, ?_⟩) (by assumption) ?_
            · intro wq hSw; obtain ⟨hsa, hsb⟩ := hSw; first | (go_simp; done) | (go_simp; with_reducible rfl) | with_reducible rfl
            try simp only [Act.put, List.setIfInBounds_toArray, List.set_cons_zero, List.set_cons_succ, List.getElem_toArray, List.getElem_cons_zero, List.getElem_cons_succ]
            refine wpAnyL_take (i := 5) (v := .bool false) rfl (by kernel_rfl) (by kernel_rfl) (by kernel_rfl) (by kernel_rfl) (by kernel_rfl) (fun _ _ _ h => h) (Or.inl ⟨by rfl, ?_⟩) (by assumption) ?_
            · intro wq hSw; obtain ⟨hsa, hsb⟩ := hSw; first | (go_simp; done) | (go_simp; with_reducible rfl) | with_reducible rfl
            try simp only [Act.put, List.setIfInBounds_toArray, List.set_cons_zero, List.set_cons_succ, List.getElem_toArray, List.getElem_cons_zero, List.getElem_cons_succ]
            refine wpAnyL_take (i := 6) (v := .slice (some ⟨b5, o5, none⟩) M c5) rfl (by kernel_rfl) (by kernel_rfl) (by kernel_rfl) (by kernel_rfl) (by kernel_rfl) (fun _ _ _ h => h) (Or.inl ⟨by rfl, ?_⟩) (by assumption) ?_
            · intro wq hSw; obtain ⟨hsa, hsb⟩ := hSw; first | (go_simp; done) | (go_simp; with_reducible rfl) | with_reducible rfl
            try simp only [Act.put, List.setIfInBounds_toArray, List.set_cons_zero, List.set_cons_succ, List.getElem_toArray, List.getElem_cons_zero, List.getElem_cons_succ]
            refine wpAnyL_take (i := 7) (v := .pointer (some ⟨b5, o5, none⟩)) rfl (by kernel_rfl) (by kernel_rfl) (by kernel_rfl) (by kernel_rfl) (by kernel_rfl) (fun _ _ _ h => h) (Or.inl ⟨by rfl, ?_⟩) (by assumption) ?_
            · intro wq hSw; obtain ⟨hsa, hsb⟩ := hSw; first | (go_simp; done) | (go_simp; with_reducible rfl) | with_reducible rfl
            try simp only [Act.put, List.setIfInBounds_toArray, List.set_cons_zero, List.set_cons_succ, List.getElem_toArray, List.getElem_cons_zero, List.getElem_cons_succ]
            refine wpAnyL_take (i := 8) (v := .int .i64 v) rfl (by kernel_rfl) (by kernel_rfl) (by kernel_rfl) (by kernel_rfl) (by kernel_rfl) (fun _ _ _ h => h) (Or.inl ⟨by rfl, ?_⟩) (by assumption) ?_
            · intro wq hSw; obtain ⟨hsa, hsb⟩ := hSw; first | (go_simp; done) | (go_simp; with_reducible rfl) | with_reducible rfl
            try simp only [Act.put, List.setIfInBounds_toArray, List.set_cons_zero, List.set_cons_succ, List.getElem_toArray, List.getElem_cons_zero, List.getElem_cons_succ]
            refine wpAnyL_take (i := 9) (v := .slice (some ⟨bl, off, none⟩) k c) rfl (by kernel_rfl) (by kernel_rfl) (by kernel_rfl) (by kernel_rfl) (by kernel_rfl) (fun _ _ _ h => h) (Or.inl ⟨by rfl, ?_⟩) (by assumption) ?_
            · intro wq hSw; obtain ⟨hsa, hsb⟩ := hSw; first | (go_simp; done) | (go_simp; with_reducible rfl) | with_reducible rfl
            try simp only [Act.put, List.setIfInBounds_toArray, List.set_cons_zero, List.set_cons_succ, List.getElem_toArray, List.getElem_cons_zero, List.getElem_cons_succ]
            refine wpAnyL_take (i := 10) (v := .int .i64 (j : Int)) rfl (by kernel_rfl) (by kernel_rfl) (by kernel_rfl) (by kernel_rfl) (by kernel_rfl) (fun _ _ _ h => h) (Or.inl ⟨by rfl, ?_⟩) (by assumption) ?_
            · intro wq hSw; obtain ⟨hsa, hsb⟩ := hSw; first | (go_simp; done) | (go_simp; with_reducible rfl) | with_reducible rfl
            try simp only [Act.put, List.setIfInBounds_toArray, List.set_cons_zero, List.set_cons_succ, List.getElem_toArray, List.getElem_cons_zero, List.getElem_cons_succ]
            refine wpAnyL_take (i := 11) (v := .pointer (some ⟨bl, off + j, none⟩)) rfl (by kernel_rfl) (by kernel_rfl) (by kernel_rfl) (by kernel_rfl) (by kernel_rfl) (fun _ _ _ h => h) (Or.inl ⟨by rfl, ?_⟩) (by assumption) ?_
            · intro wq hSw; obtain ⟨hsa, hsb⟩ := hSw; first | (go_simp; done) | (go_simp; with_reducible rfl) | with_reducible rfl
            try simp only [Act.put, List.setIfInBounds_toArray, List.set_cons_zero, List.set_cons_succ, List.getElem_toArray, List.getElem_cons_zero, List.getElem_cons_succ]
            refine wpAnyL_take (i := 12) (v := .int .i64 v) rfl (by kernel_rfl) (by kernel_rfl) (by kernel_rfl) (by kernel_rfl) (by kernel_rfl) (fun _ _ _ h => h) (Or.inl ⟨by rfl, ?_⟩) (by assumption) ?_
            · intro wq hSw; obtain ⟨hsa, hsb⟩ := hSw; first | (go_simp; done) | (go_simp; with_reducible rfl) | with_reducible rfl
            try simp only [Act.put, List.setIfInBounds_toArray, List.set_cons_zero, List.set_cons_succ, List.getElem_toArray, List.getElem_cons_zero, List.getElem_cons_succ]
            refine wpAnyL_take (i := 13) (v := .bool false) rfl (by kernel_rfl) (by kernel_rfl) (by kernel_rfl) (by kernel_rfl) (by kernel_rfl) (fun _ _ _ h => h) (Or.inl ⟨by rfl, ?_⟩) (by assumption) ?_
            · intro wq hSw; obtain ⟨hsa, hsb⟩ := hSw; first | (go_simp; done) | (go_simp; with_reducible rfl) | with_reducible rfl
            try simp only [Act.put, List.setIfInBounds_toArray, List.set_cons_zero, List.set_cons_succ, List.getElem_toArray, List.getElem_cons_zero, List.getElem_cons_succ]
            refine wpAnyL_take (i := 14) (v := .bool false) rfl (by kernel_rfl) (by kernel_rfl) (by kernel_rfl) (by kernel_rfl) (by kernel_rfl) (fun _ _ _ h => h) (Or.inl ⟨by rfl, ?_⟩) (by assumption) ?_
            · intro wq hSw; obtain ⟨hsa, hsb⟩ := hSw; first | (go_simp; done) | (go_simp; with_reducible rfl) | with_reducible rfl
            try simp only [Act.put, List.setIfInBounds_toArray, List.set_cons_zero, List.set_cons_succ, List.getElem_toArray, List.getElem_cons_zero, List.getElem_cons_succ]
            refine wpAnyL_take (i := 15) (v := .bool false) rfl (by kernel_rfl) (by kernel_rfl) (by kernel_rfl) (by kernel_rfl) (by kernel_rfl) (fun _ _ _ h => h) (Or.inl ⟨by rfl, ?_⟩) (by assumption) ?_
            · intro wq hSw; obtain ⟨hsa, hsb⟩ := hSw; first | (go_simp; done) | (go_simp; with_reducible rfl) | with_reducible rfl
            try simp only [Act.put, List.setIfInBounds_toArray, List.set_cons_zero, List.set_cons_succ, List.getElem_toArray, List.getElem_cons_zero, List.getElem_cons_succ]
            refine wpAnyL_take (i := 16) (v := .pointer (some ⟨g, 0, none⟩)) rfl (by kernel_rfl) (by kernel_rfl) (by kernel_rfl) (by kernel_rfl) (by kernel_rfl) (fun _ _ _ h => h) (Or.inl ⟨by rfl, ?_⟩) (by assumption) ?_
            · intro wq hSw; obtain ⟨hsa, hsb⟩ := hSw; first | (go_simp; done) | (go_simp; with_reducible rfl) | with_reducible rfl
            try simp only [Act.put, List.setIfInBounds_toArray, List.set_cons_zero, List.set_cons_succ, List.getElem_toArray, List.getElem_cons_zero, List.getElem_cons_succ]
            refine wpAnyL_ready (rs := [17]) (by kernel_rfl) (by simp) ?_
            refine (AllReadyL.cons rfl (fun K hK => ?_) AllReadyL.nil)
            go_simp
            go_wp2_with fail
            refine (reg_in _ w _ g B q _ _ _ _ 0 1 _ (F ++ [(v, (b : Int))]) _ HL6.out).mono ?_
            rintro e w7 ⟨rfl, rfl⟩
            refine hK.out _ _ ?_ (fun hHeld => ?_)
            · (try dsimp only); exact HS6.out
            clear hK K
            refine wpAnyL_take (i := 18) (v := .int .u8 1) rfl (by kernel_rfl) (by kernel_rfl) (by kernel_rfl) (by kernel_rfl) (by kernel_rfl) (fun _ _ _ h => h) (Or.inl ⟨by rfl, ?_⟩) (by assumption) ?_
            · intro wq hSw; obtain ⟨hsa, hsb⟩ := hSw; first | (go_simp; done) | (go_simp; with_reducible rfl) | with_reducible rfl
            try simp only [Act.put, List.setIfInBounds_toArray, List.set_cons_zero, List.set_cons_succ, List.getElem_toArray, List.getElem_cons_zero, List.getElem_cons_succ]
            refine wpAnyL_take (i := 19) (v := .bool false) rfl (by kernel_rfl) (by kernel_rfl) (by kernel_rfl) (by kernel_rfl) (by kernel_rfl) (fun _ _ _ h => h) (Or.inl ⟨by rfl, ?_⟩) (by assumption) ?_
            · intro wq hSw; obtain ⟨hsa, hsb⟩ := hSw; first | (go_simp; done) | (go_simp; with_reducible rfl) | with_reducible rfl
            try simp only [Act.put, List.setIfInBounds_toArray, List.set_cons_zero, List.set_cons_succ, List.getElem_toArray, List.getElem_cons_zero, List.getElem_cons_succ]
            refine wpAnyL_ready (rs := [20]) (by kernel_rfl) (by simp) ?_
            refine AllReadyL.last rfl (fun K hK => ?_)
            go_simp
            refine hK.out _ _ ?_
            clear hK K
            refine wpAnyL_done (by kernel_rfl) ?_ _
            clear hHeld
            go_simp
            go_wp2_with fail
            go_roundw
            case rel => exact ⟨j + 1, nn + 1, _, _, _, _, _, _, by omega, by go_num, by go_num, Lib.hid (HO.out.next HV.out HL6.out)⟩
            case measure => first | (simp [intOf]; done) | (simp [intOf]; omega)
        · have hcond : fhas F v = true ∨ ¬ (1 ≤ v ∧ v ≤ 65535) := .inr (fun h => hv2 h.2)
          have hq := fhas_may HO.out.log (fun h => hv2 h.2 : ¬ (1 ≤ v ∧ v ≤ 65535))
          have HH := Lib.hid (fun y (hl : (LgI T w y g B q nn D A c1 0 1 F hs (nn : Int))) => has_in T w y g B q nn c1 D A 0 1 (nn : Int) v F hs hl hy)
          rw [hq] at HH
          have HR := Lib.hid (fun y (hl : (LgI T w y g B q nn D A c1 0 1 F hs (nn : Int))) (bit : Int) => raise_not hl (bit := bit) hy hcond)
          clear hy hq hcond
          have cz := HCZ.out _ HO.out.log.bel
          go_upto_region 11 with (go_at_call 15; refine (HH.out _ HO.out.log).mono ?_; rintro e w2 ⟨rfl, rfl⟩)
          go_upto_region 12 with (first
            | (go_at_call 12; refine (HR.out _ HO.out.log _).mono ?_; rintro e y2 ⟨rfl, hb2⟩; have HL2 := Lib.hid (lg_step HO.out.log hb2 #[.int .i64 0, .bool false, .int .i64 0, .int .u8 0, .int .u8 0, .int .u8 0, .int .u8 0, .int .u8 0, .int .u8 0, .int .u8 0, .int .u8 0]); have HN2 := Lib.hid (frame_new y2 0 0 false (fun _ => 0)); clear hb2 cz)
            | (refine wpList_store_row rfl _ (.tmp 9) (.tmp 61) rfl y2.heap.size _ rfl rfl _ _ HN2.out info_frame rfl (one_frame 0 0 false (fun _ => 0)) ?_))
          clear HN2
          generalize (y2.alloc (.cells #[.int .i64 0, .bool false, .int .i64 0, .int .u8 0, .int .u8 0, .int .u8 0, .int .u8 0, .int .u8 0, .int .u8 0, .int .u8 0, .int .u8 0] 27)).setRow y2.heap.size #[.int .i64 0, .bool false, .int .i64 0, .int .u8 0, .int .u8 0, .int .u8 0, .int .u8 0, .int .u8 0, .int .u8 0, .int .u8 0, .int .u8 0] = w3 at *
          generalize y2.heap.size = gA at *
          have cz := HCZ.out _ HL2.out.bel
          go_upto_region 13 with (first
            | (go_at_call 12; refine (HR.out _ HL2.out _).mono ?_; rintro e y3 ⟨rfl, hb2⟩; have HL3 := Lib.hid (lg_step HL2.out hb2 #[.int .i64 0, .bool false, .int .i64 0, .int .u8 0, .int .u8 0, .int .u8 0, .int .u8 0, .int .u8 0, .int .u8 0, .int .u8 0, .int .u8 0]); have HN3 := Lib.hid (frame_new y3 0 0 false (fun _ => 0)); clear hb2 cz)
            | (refine wpList_store_row rfl _ (.tmp 11) (.tmp 73) rfl y3.heap.size _ rfl rfl _ _ HN3.out info_frame rfl (one_frame 0 0 false (fun _ => 0)) ?_))
          clear HN3 HL2
          generalize (y3.alloc (.cells #[.int .i64 0, .bool false, .int .i64 0, .int .u8 0, .int .u8 0, .int .u8 0, .int .u8 0, .int .u8 0, .int .u8 0, .int .u8 0, .int .u8 0] 27)).setRow y3.heap.size #[.int .i64 0, .bool false, .int .i64 0, .int .u8 0, .int .u8 0, .int .u8 0, .int .u8 0, .int .u8 0, .int .u8 0, .int .u8 0, .int .u8 0] = w4 at *
          generalize y3.heap.size = gB at *
          have cz := HCZ.out _ HL3.out.bel
          go_wp2_with (go_at_call 15; refine (HH.out _ HL3.out).mono ?_; rintro e w2 ⟨rfl, rfl⟩)
          go_roundw
          case rel => exact ⟨j + 1, nn, c1, T, F, hs, D, A, by omega, rfl, by go_num, Lib.hid (HO.out.skip HL3.out)⟩
          case measure => first | (simp [intOf]; done) | (simp [intOf]; omega)
      · have hcond : fhas F v = true ∨ ¬ (1 ≤ v ∧ v ≤ 65535) := .inr (fun h => hv1 h.1)
        have hq := fhas_may HO.out.log (fun h => hv1 h.1 : ¬ (1 ≤ v ∧ v ≤ 65535))
        have HH := Lib.hid (fun y (hl : (LgI T w y g B q nn D A c1 0 1 F hs (nn : Int))) => has_in T w y g B q nn c1 D A 0 1 (nn : Int) v F hs hl hy)
        rw [hq] at HH
        have HR := Lib.hid (fun y (hl : (LgI T w y g B q nn D A c1 0 1 F hs (nn : Int))) (bit : Int) => raise_not hl (bit := bit) hy hcond)
        clear hy hq hcond
        have cz := HCZ.out _ HO.out.log.bel
        go_upto_region 11 with (go_at_call 15; refine (HH.out _ HO.out.log).mono ?_; rintro e w2 ⟨rfl, rfl⟩)
        go_upto_region 12 with (first
          | (go_at_call 12; refine (HR.out _ HO.out.log _).mono ?_; rintro e y2 ⟨rfl, hb2⟩; have HL2 := Lib.hid (lg_step HO.out.log hb2 #[.int .i64 0, .bool false, .int .i64 0, .int .u8 0, .int .u8 0, .int .u8 0, .int .u8 0, .int .u8 0, .int .u8 0, .int .u8 0, .int .u8 0]); have HN2 := Lib.hid (frame_new y2 0 0 false (fun _ => 0)); clear hb2 cz)
          | (refine wpList_store_row rfl _ (.tmp 9) (.tmp 61) rfl y2.heap.size _ rfl rfl _ _ HN2.out info_frame rfl (one_frame 0 0 false (fun _ => 0)) ?_))
        clear HN2
        generalize (y2.alloc (.cells #[.int .i64 0, .bool false, .int .i64 0, .int .u8 0, .int .u8 0, .int .u8 0, .int .u8 0, .int .u8 0, .int .u8 0, .int .u8 0, .int .u8 0] 27)).setRow y2.heap.size #[.int .i64 0, .bool false, .int .i64 0, .int .u8 0, .int .u8 0, .int .u8 0, .int .u8 0, .int .u8 0, .int .u8 0, .int .u8 0, .int .u8 0] = w3 at *
        generalize y2.heap.size = gA at *
        have cz := HCZ.out _ HL2.out.bel
        go_upto_region 13 with (first
          | (go_at_call 12; refine (HR.out _ HL2.out _).mono ?_; rintro e y3 ⟨rfl, hb2⟩; have HL3 := Lib.hid (lg_step HL2.out hb2 #[.int .i64 0, .bool false, .int .i64 0, .int .u8 0, .int .u8 0, .int .u8 0, .int .u8 0, .int .u8 0, .int .u8 0, .int .u8 0, .int .u8 0]); have HN3 := Lib.hid (frame_new y3 0 0 false (fun _ => 0)); clear hb2 cz)
          | (refine wpList_store_row rfl _ (.tmp 11) (.tmp 73) rfl y3.heap.size _ rfl rfl _ _ HN3.out info_frame rfl (one_frame 0 0 false (fun _ => 0)) ?_))
        clear HN3 HL2
        generalize (y3.alloc (.cells #[.int .i64 0, .bool false, .int .i64 0, .int .u8 0, .int .u8 0, .int .u8 0, .int .u8 0, .int .u8 0, .int .u8 0, .int .u8 0, .int .u8 0] 27)).setRow y3.heap.size #[.int .i64 0, .bool false, .int .i64 0, .int .u8 0, .int .u8 0, .int .u8 0, .int .u8 0, .int .u8 0, .int .u8 0, .int .u8 0, .int .u8 0] = w4 at *
        generalize y3.heap.size = gB at *
        have cz := HCZ.out _ HL3.out.bel
        go_wp2_with (go_at_call 15; refine (HH.out _ HL3.out).mono ?_; rintro e w2 ⟨rfl, rfl⟩)
        go_roundw
        case rel => exact ⟨j + 1, nn, c1, T, F, hs, D, A, by omega, rfl, by go_num, Lib.hid (HO.out.skip HL3.out)⟩
        case measure => first | (simp [intOf]; done) | (simp [intOf]; omega)
    · have ejk : j = k := by omega
      have HK := HO
      rw [ejk] at HK
      have HT1 := Lib.hid (HK.out.told hk30)
      have HNN := Lib.hid HT1.out.le
      go_upto_region 22 with (go_at_call 18; refine (told_same HO.out.log).mono ?_; rintro e w2 ⟨rfl, rfl⟩)
      clear HO HK hlt hj
      go_wp2_with fail
      go_loopw [14] (fun s14 wr => ∃ (j2 : Nat) (F2 : List (Int × Int)) (D2 : DataW Unit) (td : Int), j2 ≤ k ∧ s14 = .int .i64 (j2 : Int) ∧ Hid (OfI w g B q z k j2 nn T F2 hs nn c1 D2 A td wr)) (fun i _ => 40 - (intOf i).toNat)
      case atStart => exact ⟨0, F, D, (nn : Int), Nat.zero_le _, rfl, HT1⟩
      case round =>
        clear HT1
        obtain ⟨j2, F2, D2, td, hj, rfl, HO⟩ := hrel
        by_cases hlt : (j2 : Int) < k
        · have hjk : j2 < k := by omega
          obtain ⟨bl, off, rfl, hbl, hcl⟩ := HZ.out.cells (by omega)
          obtain ⟨v, hv⟩ : ∃ v, z.getD j2 0 = v := ⟨_, rfl⟩
          have hrg : -9223372036854775808 ≤ v ∧ v ≤ 9223372036854775807 := by
            have hl := HZ.out.len
            rw [← hv, List.getD_eq_getElem?_getD, List.getElem?_eq_getElem (by omega)]
            exact HZ.out.rng _ (List.getElem_mem _)
          have hy : (Lit.int .i64 v).wf = true := WalkArith.wf_i64 hrg
          have HCZ := Lib.hid (show ∀ y, Below w.heap.size w y → y.cell? ⟨bl, off + j2, none⟩ = some (.int .i64 v) from fun y hb => (hb.cell (p := ⟨bl, off + j2, none⟩) hbl).trans (by rw [hcl j2 (by omega), hv]))
          have HV := Lib.hid hv
          clear hcl hrg hv
          cases hq : fhas F2 v with
          | true =>
            have HC1 := Lib.hid (clear_ok T w _ g B q nn c1 D2 A 0 1 td F2 hs v HO.out.log (by decide) hy hq HO.out.small)
            have hq2 : fhas (fcut F2 v) v = false := by rw [fhas_cut]; simp
            have HC2 := Lib.hid (fun y (hl : LgI T w y g B q nn (D2.del (.int .i64 v)) A c1 0 1 (fcut F2 v) hs (td + 1)) => clear_no T w y g B q nn c1 (D2.del (.int .i64 v)) A 0 1 (td + 1) (fcut F2 v) hs v hl hy hq2)
            have HQ := Lib.hid hq
            clear hy hq hq2
            have cz := HCZ.out _ HO.out.log.bel
            go_upto_region 26 with (go_at_call 13; refine (HC1.out).mono ?_; rintro e y2 ⟨rfl, hl2, _⟩; have HL2 := Lib.hid hl2; clear hl2 cz)
            have cz := HCZ.out _ HL2.out.bel
            go_upto_region 27 with (first
              | (go_at_call 13; refine (HC2.out _ HL2.out).mono ?_; rintro e y3 ⟨rfl, hb3⟩; have HL3 := Lib.hid (lg_step HL2.out hb3 #[.int .i64 0, .bool false, .int .i64 0, .int .u8 0, .int .u8 0, .int .u8 0, .int .u8 0, .int .u8 0, .int .u8 0, .int .u8 0, .int .u8 0]); have HN3 := Lib.hid (frame_new y3 0 0 false (fun _ => 0)); clear hb3 cz)
              | (refine wpList_store_row rfl _ (.tmp 15) (.tmp 144) rfl y3.heap.size _ rfl rfl _ _ HN3.out info_frame rfl (one_frame 0 0 false (fun _ => 0)) ?_))
            clear HN3 HL2
            generalize (y3.alloc (.cells #[.int .i64 0, .bool false, .int .i64 0, .int .u8 0, .int .u8 0, .int .u8 0, .int .u8 0, .int .u8 0, .int .u8 0, .int .u8 0, .int .u8 0] 27)).setRow y3.heap.size #[.int .i64 0, .bool false, .int .i64 0, .int .u8 0, .int .u8 0, .int .u8 0, .int .u8 0, .int .u8 0, .int .u8 0, .int .u8 0, .int .u8 0] = w4 at *
            generalize y3.heap.size = gB at *
            go_wp2_with fail
            go_roundw
            case rel => exact ⟨j2 + 1, fcut F2 v, _, td + 1, by omega, by go_num, Lib.hid (HO.out.next HV.out HQ.out HL3.out)⟩
            case measure => first | (simp [intOf]; done) | (simp [intOf]; omega)
          | false =>
            have HC1 := Lib.hid (fun y (hl : LgI T w y g B q nn D2 A c1 0 1 F2 hs td) => clear_no T w y g B q nn c1 D2 A 0 1 td F2 hs v hl hy hq)
            have HQ := Lib.hid hq
            clear hy hq
            have cz := HCZ.out _ HO.out.log.bel
            go_upto_region 26 with (go_at_call 13; refine (HC1.out _ HO.out.log).mono ?_; rintro e y2 ⟨rfl, hb2⟩; have HL2 := Lib.hid (HO.out.log.below hb2); clear hb2 cz)
            have cz := HCZ.out _ HL2.out.bel
            go_upto_region 27 with (first
              | (go_at_call 13; refine (HC1.out _ HL2.out).mono ?_; rintro e y3 ⟨rfl, hb3⟩; have HL3 := Lib.hid (lg_step HL2.out hb3 #[.int .i64 0, .bool false, .int .i64 0, .int .u8 0, .int .u8 0, .int .u8 0, .int .u8 0, .int .u8 0, .int .u8 0, .int .u8 0, .int .u8 0]); have HN3 := Lib.hid (frame_new y3 0 0 false (fun _ => 0)); clear hb3 cz)
              | (refine wpList_store_row rfl _ (.tmp 15) (.tmp 144) rfl y3.heap.size _ rfl rfl _ _ HN3.out info_frame rfl (one_frame 0 0 false (fun _ => 0)) ?_))
            clear HN3 HL2
            generalize (y3.alloc (.cells #[.int .i64 0, .bool false, .int .i64 0, .int .u8 0, .int .u8 0, .int .u8 0, .int .u8 0, .int .u8 0, .int .u8 0, .int .u8 0, .int .u8 0] 27)).setRow y3.heap.size #[.int .i64 0, .bool false, .int .i64 0, .int .u8 0, .int .u8 0, .int .u8 0, .int .u8 0, .int .u8 0, .int .u8 0, .int .u8 0, .int .u8 0] = w4 at *
            generalize y3.heap.size = gB at *
            go_wp2_with fail
            go_roundw
            case rel => exact ⟨j2 + 1, F2, D2, td, by omega, by go_num, Lib.hid (HO.out.skip HV.out HQ.out HL3.out)⟩
            case measure => first | (simp [intOf]; done) | (simp [intOf]; omega)
        · have ejk2 : j2 = k := by omega
          have HK := HO
          rw [ejk2] at HK
          obtain ⟨hF, htd⟩ := HK.out.done
          subst hF htd
          have HL := Lib.hid HO.out.log
          clear HO HK
          have hr0 : rgN [] 8 = 0 := by decide
          have c15 : IntKind.i64.wrap ((nn : Int) + (nn : Int)) = (nn : Int) + (nn : Int) := IntWalk.i64_in _ (by have := HNN.out; omega)
          go_wp2_with (first
            | (go_at_call 10; refine (live24_any _).mono ?_; rintro e z1 ⟨rfl, hb⟩; have HL1 := Lib.hid (HL.out.below hb); clear hb)
            | (go_at_call 16; refine (reg_in T w _ g B q nn c1 D2 A 0 1 _ [] hs HL1.out).mono ?_; rw [hr0]; rintro e z2 ⟨rfl, rfl⟩)
            | (go_at_call 18; refine (told_same HL1.out).mono ?_; rintro e z3 ⟨rfl, rfl⟩))
          all_goals first | exact bodyPost_ret (results_tmp rfl _ _ _) rfl ⟨by first | rfl | simp, HL1.out.bel⟩ | (trace_state; sorry)
end Go.Proofs.Ytncnlbokipieaaa
