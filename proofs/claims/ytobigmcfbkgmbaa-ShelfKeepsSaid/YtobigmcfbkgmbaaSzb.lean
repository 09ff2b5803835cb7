/- ShelfPlays, walked. -/
import Derived.Test.YtobigmcfbkgmbaaSza
namespace Go.Proofs.Ytobigmcfbkgmbaa
open Go.RowKit

theorem two_boxes (W : World) (p : Option Addr) (k : Int) :
    Below W.heap.size W ((W.alloc (.cells #[.pointer p] 23)).alloc (.cells #[.int .i64 k] 3)) ∧ ((W.alloc (.cells #[.pointer p] 23)).alloc (.cells #[.int .i64 k] 3)).heap[W.heap.size]? = some (.cells #[.pointer p] 23 (0, 0)) ∧
      ((W.alloc (.cells #[.pointer p] 23)).alloc (.cells #[.int .i64 k] 3)).heap[W.heap.size + 1]? = some (.cells #[.int .i64 k] 3 (0, 0)) :=
  ⟨((Below.refl _ _).alloc (Nat.le_refl _) _).alloc (by simp) _, heap_alloc2_old W _ _, heap_alloc2_new W _ _⟩
set_option maxRecDepth 100000 in
set_option maxHeartbeats 2000000 in
theorem shelfPlays_walk (A0 : Option Addr) (n c0 : Nat) (ds : Nat → D3) (k : Int) (w : World) (h : Deeds w w.heap.size A0 n c0 ds) (hk : -9223372036854775808 ≤ k ∧ k ≤ 9223372036854775807) :
    Calls Try.prog 3 #[.slice A0 n c0, .int .i64 k] w fun e w' => e = .returned (.bool true) ∧ Below w.heap.size w w' := by
  have HPL := Lib.hid (played_any A0 n c0 ds w h)
  clear h
  go_enter Try.func3, Try.ntmps3
  go_wp2_with fail
  refine HPL.out.mono ?_
  rintro e w1 ⟨T, R, g, vr, hT, rfl, hP⟩
  obtain ⟨ra, rc, rfl⟩ := own_slice hP.row
  have HPS := Lib.hid hP
  have hlen := hP.tie.len
  have hR : R.length ≤ 50 := by omega
  have HST : Hid (∀ W W', PS w T R g (.slice ra R.length rc) W → Below W.heap.size W W' → PS w T R g (.slice ra R.length rc) W') := Lib.hid (fun W W' h hb => h.step hb)
  have HLN := Lib.hid (fun W (h : PS w T R g (.slice ra R.length rc) W) => show Calls Try.prog 7 #[.pointer (some ⟨g, 0, none⟩)] W fun e w' => e = .returned (.int .i64 (R.length : Nat)) ∧ w' = W from by rw [hlen]; exact tab_lenA w W g T.length (fl eI eI T) h.tab)
  have HBA := Lib.hid (fun W (h : PS w T R g (.slice ra R.length rc) W) => show Calls Try.prog 10 #[.slice ra R.length rc, .int .i64 (-9223372036854775808), .int .i64 9223372036854775807] W (Rows_ W T) from by have := dbtw_any W _ _ R (-9223372036854775808) 9223372036854775807 h.row (by omega); rw [btw_all h.tie h.rng] at this; exact this)
  have HBF := Lib.hid (fun W (h : PS w T R g (.slice ra R.length rc) W) => show Calls Try.prog 10 #[.slice ra R.length rc, .int .i64 k, .int .i64 9223372036854775807] W (Rows_ W (T.drop (plcI k T))) from by have := dbtw_any W _ _ R k 9223372036854775807 h.row (by omega); rw [btw_from h.tie h.rng] at this; exact this)
  have HBU := Lib.hid (fun W (h : PS w T R g (.slice ra R.length rc) W) => show Calls Try.prog 10 #[.slice ra R.length rc, .int .i64 (-9223372036854775808), .int .i64 k] W (Rows_ W (T.take (upI k T))) from by have := dbtw_any W _ _ R (-9223372036854775808) k h.row (by omega); rw [btw_up h.tie h.rng] at this; exact this)
  have hri := hP.tie.rise
  have HTA := Lib.hid (fun W gb (h : PS w T R g (.slice ra R.length rc) W) hbox base vr hr => tolA w W g gb T h.tab (by omega) hbox base vr hr)
  have HTF := Lib.hid (fun W gb kb (h : PS w T R g (.slice ra R.length rc) W) hbox hboxk base vr hr => tolF w W g gb kb T k h.tab (by omega) hri hbox hboxk base vr hr)
  have HTB := Lib.hid (fun W gb kb (h : PS w T R g (.slice ra R.length rc) W) hbox hboxk base vr hr => tolB w W g gb kb T k h.tab (by omega) hri hbox hboxk base vr hr)
  have hul : (T.take (upI k T)).length ≤ 1000 := by simp; omega
  have HBK := Lib.hid (fun W base vr hr => back_any W base vr (T.take (upI k T)) hr hul)
  have HGE := Lib.hid (fun W (h : PS w T R g (.slice ra R.length rc) W) => show Calls Try.prog 14 #[.pointer (some ⟨g, 0, none⟩), .int .i64 k] W fun e w' => e = .returned (.tuple #[.int .i64 (thI 0 k T), .bool (hasI k T)]) ∧ PS w T R g (.slice ra R.length rc) w' from by
    obtain ⟨v, hv⟩ := h.tab.tab
    exact (getA W w.heap.size g T v k hv (by omega) hri).mono fun e w' ⟨a, b⟩ => ⟨a, h.step b⟩)
  have HDG := Lib.hid (fun W (h : PS w T R g (.slice ra R.length rc) W) => show Calls Try.prog 15 #[.slice ra R.length rc, .int .i64 k] W fun e w' => e = .returned (.tuple #[.int .i64 (thI 0 k T), .bool (hasI k T)]) ∧ w' = W from by
    have := dget_any W _ _ R k h.row (by omega); rw [← h.tie.get, ← h.tie.has] at this; exact this)
  have HPC := Lib.hid (fun W (h : PS w T R g (.slice ra R.length rc) W) => show Calls Try.prog 16 #[.pointer (some ⟨g, 0, none⟩), .int .i64 k] W fun e w' => e = .returned (.tuple #[.int .i64 (plcI k T : Nat), .bool (hasI k T)]) ∧ PS w T R g (.slice ra R.length rc) w' from by
    obtain ⟨v, hv⟩ := h.tab.tab
    exact (placeA W w.heap.size g T v k hv (by omega) hri).mono fun e w' ⟨a, b⟩ => ⟨a, h.step b⟩)
  have HDP := Lib.hid (fun W (h : PS w T R g (.slice ra R.length rc) W) => show Calls Try.prog 18 #[.slice ra R.length rc, .int .i64 k] W fun e w' => e = .returned (.int .i64 (plcI k T : Nat)) ∧ w' = W from by
    have := dplc_any W _ _ R k h.row (by omega); rw [← h.tie.plc] at this; exact this)
  clear hP HPL hlen hri hul
  generalize thI 0 k T = TH at *
  generalize hasI k T = HA at *
  generalize plcI k T = PL at *
  generalize T.take (upI k T) = TU at *
  generalize TU.reverse = TV at *
  generalize T.drop PL = TD at *
  go_wp2_with fail
  refine (HLN.out _ HPS.out).mono ?_
  rintro e w2 ⟨rfl, rfl⟩
  go_wp2_with fail
  refine (all_any _ _).mono ?_
  rintro e w3 ⟨rfl, rfl⟩
  have hb3 : Below w2.heap.size w2 (w2.alloc (.cells #[.pointer (some ⟨g, 0, none⟩)] 23)) := (Below.refl _ _).alloc (Nat.le_refl _) _
  have HX3 := Lib.hid (heap_alloc_new w2 (.cells #[.pointer (some ⟨g, 0, none⟩)] 23))
  have HS3 := Lib.hid (HST.out _ _ HPS.out hb3)
  have HL3 := Lib.hid (show w2.heap.size < (w2.alloc (.cells #[.pointer (some ⟨g, 0, none⟩)] 23)).heap.size from by simp)
  clear hb3 HPS
  go_wp2_with fail
  generalize w2.alloc (.cells #[.pointer (some ⟨g, 0, none⟩)] 23) = w3 at HX3 HS3 HL3 ⊢
  refine (HBA.out _ HS3.out).mono ?_
  rintro e w4 ⟨v4, rfl, hr4, hb4⟩
  obtain ⟨a4, c4, rfl⟩ := own_slice hr4
  have HT4 := Lib.hid (HTA.out w4 w2.heap.size (HST.out _ _ HS3.out hb4) ((hb4.block _ HL3.out).trans HX3.out) _ _ hr4)
  have HS4 := Lib.hid (HST.out _ _ HS3.out hb4)
  clear hr4 hb4 HX3 HS3 HL3
  go_wp2_with fail
  refine HT4.out.mono ?_
  rintro e w5 ⟨rfl, hb5⟩
  have HS5 := Lib.hid (HST.out _ _ HS4.out hb5)
  clear hb5 HS4 HT4
  go_wp2_with fail
  refine (from_any _ _ _).mono ?_
  rintro e w6 ⟨rfl, rfl⟩
  have htb := two_boxes w5 (some ⟨g, 0, none⟩) k
  have HL6 := Lib.hid (show w5.heap.size + 1 < ((w5.alloc (.cells #[.pointer (some ⟨g, 0, none⟩)] 23)).alloc (.cells #[.int .i64 k] 3)).heap.size from by simp)
  have HX6 := Lib.hid htb.2
  have HS6 := Lib.hid (HST.out _ _ HS5.out htb.1)
  clear htb HS5
  go_wp2_with fail
  generalize (w5.alloc (.cells #[.pointer (some ⟨g, 0, none⟩)] 23)).alloc (.cells #[.int .i64 k] 3) = w6 at HX6 HS6 HL6 ⊢
  refine (HBF.out _ HS6.out).mono ?_
  rintro e w7 ⟨v7, rfl, hr7, hb7⟩
  obtain ⟨a7, c7, rfl⟩ := own_slice hr7
  have HT7 := Lib.hid (HTF.out w7 w5.heap.size (w5.heap.size + 1) (HST.out _ _ HS6.out hb7) ((hb7.block _ (by have := HL6.out; omega)).trans HX6.out.1) ((hb7.block _ HL6.out).trans HX6.out.2) _ _ hr7)
  have HS7 := Lib.hid (HST.out _ _ HS6.out hb7)
  clear hr7 hb7 HX6 HS6 HL6
  go_wp2_with fail
  refine HT7.out.mono ?_
  rintro e w8 ⟨rfl, hb8⟩
  have HS8 := Lib.hid (HST.out _ _ HS7.out hb8)
  clear hb8 HS7 HT7
  go_wp2_with fail
  refine (back1_any _ _ _).mono ?_
  rintro e w9 ⟨rfl, rfl⟩
  have htb := two_boxes w8 (some ⟨g, 0, none⟩) k
  have HL9 := Lib.hid (show w8.heap.size + 1 < ((w8.alloc (.cells #[.pointer (some ⟨g, 0, none⟩)] 23)).alloc (.cells #[.int .i64 k] 3)).heap.size from by simp)
  have HX9 := Lib.hid htb.2
  have HS9 := Lib.hid (HST.out _ _ HS8.out htb.1)
  clear htb HS8
  go_wp2_with fail
  generalize (w8.alloc (.cells #[.pointer (some ⟨g, 0, none⟩)] 23)).alloc (.cells #[.int .i64 k] 3) = w9 at HX9 HS9 HL9 ⊢
  refine (HBU.out _ HS9.out).mono ?_
  rintro e wa ⟨va, rfl, hra, hba⟩
  obtain ⟨aa, ca, rfl⟩ := own_slice hra
  have HKA := Lib.hid (HBK.out wa _ _ hra)
  have HSA := Lib.hid (HST.out _ _ HS9.out hba)
  have HLA := Lib.hid (show w8.heap.size + 1 < wa.heap.size from by have := HL9.out; have := hba.size; omega)
  have HXA := Lib.hid (And.intro ((hba.block _ (by have := HL9.out; omega)).trans HX9.out.1) ((hba.block _ HL9.out).trans HX9.out.2))
  clear hra hba HX9 HS9 HL9
  go_wp2_with fail
  refine HKA.out.mono ?_
  rintro e wb ⟨vb, rfl, hrb, hbb⟩
  obtain ⟨ab, cb, rfl⟩ := own_slice hrb
  have HTB2 := Lib.hid (HTB.out wb w8.heap.size (w8.heap.size + 1) (HST.out _ _ HSA.out hbb) ((hbb.block _ (by have := HLA.out; omega)).trans HXA.out.1) ((hbb.block _ HLA.out).trans HXA.out.2) _ _ hrb)
  have HSB := Lib.hid (HST.out _ _ HSA.out hbb)
  clear hrb hbb HXA HSA HLA
  go_wp2_with fail
  refine HTB2.out.mono ?_
  rintro e wc ⟨rfl, hbc⟩
  have HSC := Lib.hid (HST.out _ _ HSB.out hbc)
  clear hbc HSB HTB2
  go_wp2_with fail
  refine (HGE.out _ HSC.out).mono ?_
  rintro e wd ⟨rfl, hpd⟩
  have HSD := Lib.hid hpd
  clear hpd HSC
  go_wp2_with fail
  refine (HDG.out _ HSD.out).mono ?_
  rintro e we ⟨rfl, rfl⟩
  go_wp2_with fail
  refine (HPC.out _ HSD.out).mono ?_
  rintro e wf ⟨rfl, hpf⟩
  have HSF := Lib.hid hpf
  clear hpf HSD
  go_wp2_with fail
  refine (live_any _).mono ?_
  rintro e wg ⟨rfl, hbg⟩
  have HSG := Lib.hid (HST.out _ _ HSF.out hbg)
  clear hbg HSF
  go_wp2_with fail
  refine (HDP.out _ HSG.out).mono ?_
  rintro e wh ⟨rfl, rfl⟩
  go_wp2_with fail
  go_ret
  exact ⟨rfl, HSG.out.tab.below⟩
end Go.Proofs.Ytobigmcfbkgmbaa
