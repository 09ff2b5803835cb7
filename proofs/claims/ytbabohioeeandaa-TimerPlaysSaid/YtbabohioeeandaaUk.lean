/- TimerPlays, walked. -/
import Derived.Test.YtbabohioeeandaaUj
import Derived.Test.YtbabohioeeandaaUd
import Derived.Deep.CutBlock
import Derived.Deep.DeepCutAuto
import Derived.Deep.LoopGhost
namespace Go.Proofs.Ytbabohioeeandaa
open Go.RowKit
set_option linter.unusedSimpArgs false
set_option linter.unusedVariables false

theorem dcut_lt {L T R : List (Int × Int)} (h : TieT L T R) (k : Int) : decide ((dcut k R).length < R.length) = dhas k R := by
  cases hh : dhas k R with
  | false => rw [dcut_none hh]; simp
  | true =>
    have h1 := h.cut_len hh
    have h2 := (h.lp.filter fun x => decide (x.1 ≠ k)).length_eq
    have h3 := h.lp.length_eq
    have e : (dcut k R).length = (dcut k L).length := h2.symm
    have : (dcut k R).length < R.length := by omega
    simp [this]
theorem Deeds.below {w : World} {B : Nat} {A : Option Addr} {n c : Nat} {fs : Nat → D3} (h : Deeds w B A n c fs) {w' : World} (hb : Below B w w') : Deeds w' B A n c fs :=
  ⟨h.cap, h.max, fun hn => by
    obtain ⟨b, off, e, hlt, hc⟩ := h.cells hn
    exact ⟨b, off, e, hlt, fun i hi => (hc i hi).below hlt hb⟩⟩
/-- The deed of this round, in its block. -/
def DeedIn (w : World) (D : Nat) (k n u : Int) : Prop := w.heap[D]? = some (.cells #[.int .i64 k, .int .i64 n, .int .i64 u] 27 (0, 0))
theorem DeedIn.below {w w' : World} {D : Nat} {k n u : Int} (h : DeedIn w D k n u) (hb : Below w.heap.size w w') : DeedIn w' D k n u := (hb.block D (Array.getElem?_eq_some_iff.1 h).1).trans h
theorem DeedIn.oth {w w' : World} {D : Nat} {k n u : Int} (h : DeedIn w D k n u) (ho : OthT w w') : DeedIn w' D k n u := ((ho 27 (by decide) (by decide) (by decide) (by decide)).2 D _ _ h).trans h
theorem DeedIn.cells {w : World} {D : Nat} {k n u : Int} (h : DeedIn w D k n u) : w.cell? ⟨D, 0, none⟩ = some (.int .i64 k) ∧ w.cell? ⟨D, 1, none⟩ = some (.int .i64 n) ∧ w.cell? ⟨D, 2, none⟩ = some (.int .i64 u) :=
  ⟨by rw [cell_of_row _ _ _ _ _ _ h]; rfl, by rw [cell_of_row _ _ _ _ _ _ h]; rfl, by rw [cell_of_row _ _ _ _ _ _ h]; rfl⟩
theorem kpt_rowO {w w' : World} (h : OthT w w') : KpT 44 w w' := h _ (by decide) (by decide) (by decide) (by decide)
theorem kpt_intO {w w' : World} (h : OthT w w') : KpT 3 w w' := h _ (by decide) (by decide) (by decide) (by decide)
set_option maxRecDepth 100000 in
set_option maxHeartbeats 20000000 in
theorem plays_walk (A0 : Option Addr) (n c0 : Nat) (ds : Nat → D3) (w : World) (h : Deeds w w.heap.size A0 n c0 ds) :
    Calls Try.prog 3 #[.slice A0 n c0] w fun e w' => e = .returned (.bool true) ∧ Below w.heap.size w w' := by
  have hcap := h.cap
  have hmax := h.max
  simp only [maxLen] at hmax
  obtain ⟨K, hK⟩ : ∃ K : Nat, (K = n ∧ n ≤ 40) ∨ (K = 40 ∧ 40 < n) := by
    rcases Nat.lt_or_ge 40 n with h | h
    · exact ⟨40, .inr ⟨rfl, h⟩⟩
    · exact ⟨n, .inl ⟨rfl, h⟩⟩
  have hKn : K ≤ n ∧ K ≤ 40 := by omega
  have HDS := Lib.hid h
  have HK := Lib.hid hK
  obtain ⟨hK1, hK2⟩ := hKn
  clear h hK
  go_enter Try.func3, Try.ntmps3
  go_wp2_with fail
  refine (tim_new w w (Below.refl _ _)).mono ?_
  rintro e w1 ⟨g, rfl, hx1, hb1⟩
  have hal : Below w1.heap.size w1 (w1.alloc (.cells #[] 44)) := (Below.refl _ _).alloc (Nat.le_refl _) _
  have HT := Lib.hid (hx1.step hal)
  have HR := Lib.hid (own_made w1 w.heap.size 44 2 hb1.size)
  clear hx1 hb1 hal
  go_wp2_with fail
  go_loopg [3, 4, 5] K (fun k t r i wr => ∃ (j g : Nat) (L T R : List (Int × Int)), j + k = K ∧ R.length ≤ j ∧ i = .int .i64 j ∧ t = .pointer (some ⟨g, 0, none⟩) ∧ Hid (TieT L T R) ∧ Hid (TimAt w g L T wr) ∧ Hid (wr.ownsRow w.heap.size 44 2 r R.length (fl eI eI R)))
  case atStart => exact ⟨0, g, [], [], [], by omega, Nat.le_refl _, rfl, rfl, Lib.hid tieT_nil, HT, HR⟩
  case round =>
    clear HT HR
    obtain ⟨j, g, L, T, R, hj, hRj, rfl, rfl, HTI, HT, HR⟩ := hrel
    obtain ⟨ra, rc, rfl⟩ := own_slice HR.out
    by_cases hlt : j < K
    · have hlt' : j < n := by omega
      obtain ⟨b, off, rfl, hbb, hcl'⟩ := HDS.out.cells (by omega)
      have hf := (hcl' j hlt').below hbb HT.out.bel
      have ck := hf.ck
      have cn := hf.cn
      have cu := hf.cu
      generalize ds j = f at hf ck cn cu
      obtain ⟨k, dn, du⟩ := f
      simp only at ck cn cu
      rw [Nat.mul_comm] at ck cn cu
      have hjn : (j : Int) < (n : Int) := by omega
      have hj40 : (j : Int) < 40 := by omega
      have hba : Below wr.heap.size wr (wr.alloc (.cells #[.int .i64 k, .int .i64 dn, .int .i64 du] 27)) := (Below.refl _ _).alloc (Nat.le_refl _) _
      have hd0 : DeedIn (wr.alloc (.cells #[.int .i64 k, .int .i64 dn, .int .i64 du] 27)) wr.heap.size k dn du := heap_alloc_new wr _
      have HT0 := Lib.hid (HT.out.step hba)
      have HR0 := Lib.hid (own_below HR.out hba)
      have HD0 := Lib.hid hd0
      clear hf hcl' hba hd0 HT HR
      go_upto_block 2 with fail
      generalize wr.alloc (.cells #[.int .i64 k, .int .i64 dn, .int .i64 du] 27) = W0 at HT0 HR0 HD0 ⊢
      generalize wr.heap.size = D at HD0 ⊢
      go_cut [3, 4, 7, 8, 9] from 18 to 157 (fun s3 s4 s7 s8 s9 wx => ∃ (g' : Nat) (L' T' R' : List (Int × Int)) (ra' : Option Addr) (rc' : Nat), s3 = .pointer (some ⟨g', 0, none⟩) ∧ s4 = .slice ra' R'.length rc' ∧ R'.length ≤ j + 1 ∧ Hid (TieT L' T' R') ∧ Hid (TimAt w g' L' T' wx) ∧ Hid (wx.ownsRow w.heap.size 44 2 (.slice ra' R'.length rc') R'.length (fl eI eI R')) ∧ Hid (DeedIn wx D k dn du))
      case first =>
        obtain ⟨d0, d1, d2⟩ := HD0.out.cells
        have hDl : D < W0.heap.size := (Array.getElem?_eq_some_iff.1 HD0.out).1
        clear ck cn cu
        have hcs : k = 0 ∨ k = 1 ∨ k = 2 ∨ k = 3 ∨ (¬ k = 0 ∧ ¬ k = 1 ∧ ¬ k = 2 ∧ ¬ k = 3) := by omega
        rcases hcs with rfl | rfl | rfl | rfl | ⟨h0, h1, h2, h3⟩
        · have HST := Lib.hid (tim_set (w := W0) dn du HT0.out HTI.out (by omega))
          go_wp2_with fail
          refine HST.out.mono ?_
          rintro e w2 ⟨rfl, L2, T2, ht2, hx2, ho2⟩
          have HT2 := Lib.hid hx2
          have HR2 := Lib.hid (kpt_own (kpt_rowO ho2) HR0.out)
          have HD2 := Lib.hid (HD0.out.oth ho2)
          have hdp := dput_any w2 _ _ R dn du HR2.out (by omega)
          have hln := dput_le dn du R
          obtain ⟨Rn, hRn⟩ : ∃ Rn, dput dn du R = Rn := ⟨_, rfl⟩
          rw [hRn] at hdp hln ht2
          have HTI2 := Lib.hid ht2
          have HDP := Lib.hid hdp
          clear hRn hdp HTI2
          have HTI2 := Lib.hid ht2
          clear ht2 hx2 ho2 d0 d1 d2
          obtain ⟨d0, d1, d2⟩ := HD2.out.cells
          go_wp2_with fail
          refine HDP.out.mono ?_
          rintro e w3 ⟨v3, rfl, hr3, hb3⟩
          obtain ⟨qa, qc, rfl⟩ := own_slice hr3
          have HT3 := Lib.hid (HT2.out.step hb3)
          have HR3 := Lib.hid (own_less hr3 HT2.out.bel.size)
          have HD3 := Lib.hid (HD2.out.below hb3)
          clear hr3 hb3 d0 d1 d2
          go_wp2_with fail
          go_meet
          exact ⟨g, L2, T2, _, qa, qc, rfl, rfl, by omega, HTI2, HT3, HR3, HD3⟩
        · have hdc := dcut_any W0 _ _ R dn HR0.out (by omega)
          rw [dcut_lt HTI.out dn] at hdc
          have hln := dcut_le dn R
          have hts := fun w2 (hx : TimAt w g L T w2) => tim_stop (w := w2) dn hx HTI.out (by omega)
          obtain ⟨Rn, hRn⟩ : ∃ Rn, dcut dn R = Rn := ⟨_, rfl⟩
          rw [hRn] at hdc hln
          simp only [hRn] at hts
          generalize dhas dn R = B at hdc hts
          have HTS := Lib.hid hts
          have HDC := Lib.hid hdc
          clear hRn hdc hts
          go_wp2_with fail
          refine HDC.out.mono ?_
          rintro e w2 ⟨v2, rfl, hr2, hb2⟩
          obtain ⟨qa, qc, rfl⟩ := own_slice hr2
          have HT2 := Lib.hid (HT0.out.step hb2)
          have HR2 := Lib.hid (own_less hr2 HT0.out.bel.size)
          have HD2 := Lib.hid (HD0.out.below hb2)
          have HST := Lib.hid (HTS.out w2 HT2.out)
          clear hr2 hb2 d0 d1 d2
          obtain ⟨d0, d1, d2⟩ := HD2.out.cells
          go_wp2_with fail
          refine HST.out.mono ?_
          rintro e w3 ⟨rfl, L2, T2, ht2, hx2, ho2⟩
          have HTI3 := Lib.hid ht2
          have HT3 := Lib.hid hx2
          have HR3 := Lib.hid (kpt_own (kpt_rowO ho2) HR2.out)
          have HD3 := Lib.hid (HD2.out.oth ho2)
          clear ht2 hx2 ho2 d0 d1 d2
          go_wp2_with fail
          go_meet
          exact ⟨g, L2, T2, _, qa, qc, rfl, rfl, by omega, HTI3, HT3, HR3, HD3⟩
        · have HDT0 := dtake_any W0 _ _ L R du HR0.out (by omega) HTI.out.all HTI.out.rl (by have := HTI.out.len; omega)
          obtain ⟨md, hmd⟩ : ∃ md, dueN du L = md := ⟨_, rfl⟩
          rw [hmd] at HDT0
          obtain ⟨Lr, hLr⟩ : ∃ Lr, L.drop md = Lr := ⟨_, rfl⟩
          obtain ⟨Lk, hLk⟩ : ∃ Lk, L.take md = Lk := ⟨_, rfl⟩
          rw [hLr, hLk] at HDT0
          have HDT := Lib.hid HDT0
          have hdl : Lr.length ≤ j + 1 := by rw [← hLr, List.length_drop]; have := HTI.out.len; omega
          have hml : md ≤ 100 := by have := dueN_le du L; have := HTI.out.len; omega
          have HMD := Lib.hid hmd
          have HLR := Lib.hid hLr
          have HLK := Lib.hid hLk
          clear HDT0 hmd hLr hLk
          go_wp2_with fail
          refine HDT.out.mono ?_
          rintro e w2 ⟨qa, qc, ka, kc, rfl, hr2, hk2, hb2⟩
          have HT2 := Lib.hid (HT0.out.step hb2)
          have HR2 := Lib.hid (own_less hr2 HT0.out.bel.size)
          have HK2 := Lib.hid hk2
          have HD2 := Lib.hid (HD0.out.below hb2)
          have HTK := Lib.hid (tim_take (w := w2) du HT2.out HTI.out (by omega))
          clear hr2 hb2 hk2 d0 d1 d2
          obtain ⟨d0, d1, d2⟩ := HD2.out.cells
          go_wp2_with fail
          refine HTK.out.mono ?_
          rintro e w3 ⟨m, a3, c3, hm, hle, hgt, rfl, hkv, ht3, hx3, ho3⟩
          obtain rfl : m = md := (due_uniq HTI.out.rl hm hle (fun x hx => hgt x (List.mem_iff_getElem?.2 ⟨0, by rw [List.getElem?_drop]; exact hx⟩))).trans HMD.out
          rw [HLR.out] at ht3 hx3
          rw [HLK.out] at hkv
          have HTI3 := Lib.hid ht3.rest
          have HT3 := Lib.hid hx3
          have HR3 := Lib.hid (kpt_own (kpt_rowO ho3) HR2.out)
          have HD3 := Lib.hid (HD2.out.oth ho3)
          have hsm := sameN_any w3 _ _ _ _ _ _ (Lk.map fun x => x.1) (by rw [List.map_map]; rfl) hkv (kpt_own (kpt_intO ho3) HK2.out) (by omega)
          have HSM := Lib.hid hsm
          clear ht3 hx3 ho3 hkv hle hgt hm hsm d0 d1 d2
          go_wp2_with fail
          refine HSM.out.mono ?_
          rintro e w4 ⟨rfl, hb4⟩
          have HT4 := Lib.hid (HT3.out.step hb4)
          have HR4 := Lib.hid (own_below HR3.out hb4)
          have HD4 := Lib.hid (HD3.out.below hb4)
          clear hb4
          go_wp2_with fail
          go_meet
          exact ⟨g, _, _, _, qa, qc, rfl, rfl, hdl, HTI3, HT4, HR4, HD4⟩
        · have HFK := Lib.hid (tim_fork HT0.out HTI.out (by omega))
          go_wp2_with fail
          refine HFK.out.mono ?_
          rintro e w2 ⟨g', rfl, hb2, hold⟩
          have HR2 := Lib.hid (own_below HR0.out hb2)
          have HD2 := Lib.hid (HD0.out.below hb2)
          have HOL := Lib.hid (hold dn du)
          clear hb2 hold d0 d1 d2
          obtain ⟨d0, d1, d2⟩ := HD2.out.cells
          go_wp2_with fail
          refine HOL.out.mono ?_
          rintro e w3 ⟨rfl, ho3, htk⟩
          have HR3 := Lib.hid (kpt_own (kpt_rowO ho3) HR2.out)
          have HD3 := Lib.hid (HD2.out.oth ho3)
          have HTK := Lib.hid (htk du)
          clear ho3 htk d0 d1 d2
          obtain ⟨d0, d1, d2⟩ := HD3.out.cells
          go_wp2_with fail
          refine HTK.out.mono ?_
          rintro e w4 ⟨⟨a, m, c, rfl⟩, ho4, hx4⟩
          have HR4 := Lib.hid (kpt_own (kpt_rowO ho4) HR3.out)
          have HD4 := Lib.hid (HD3.out.oth ho4)
          have HT4 := Lib.hid hx4
          clear ho4 hx4 d0 d1 d2
          go_wp2_with fail
          go_meet
          exact ⟨g', L, T, R, ra, rc, rfl, rfl, by omega, HTI, HT4, HR4, HD4⟩
        · have b0 : (k == 0) = false := by simpa using h0
          have b1 : (k == 1) = false := by simpa using h1
          have b2 : (k == 2) = false := by simpa using h2
          have b3 : (k == 3) = false := by simpa using h3
          go_wp2_with fail
          go_meet
          exact ⟨g, L, T, R, ra, rc, rfl, rfl, by omega, HTI, HT0, HR0, HD0⟩
      case rest =>
        clear ck cn cu HT0 HR0 HD0 HTI hRj
        obtain ⟨g', L', T', R', ra', rc', rfl, rfl, hRj, HTI, HT0, HR0, HD0⟩ := hcut
        have hlb : L'.length ≤ 100 := by have := HTI.out.len; omega
        have hda := dall_any wc _ _ R' HR0.out (by omega)
        rw [HTI.out.all] at hda
        cases L' with
        | nil =>
          have hR0 : ∀ k, dhas k R' = false := fun k => by
            have := HTI.out.len.1
            have : R' = [] := List.eq_nil_of_length_eq_zero this.symm
            subst this; rfl
          have hwhn := fun w2 (hx : TimAt w g' [] T' w2) => tim_when dn hx HTI.out (by omega)
          rw [hR0] at hwhn
          generalize dgetI dn R' = G at hwhn
          have HWN := Lib.hid hwhn
          have HDA := Lib.hid hda
          clear hda hR0 hwhn
          go_wp2_with fail
          refine HDA.out.mono ?_
          rintro e w2 ⟨v2, rfl, hr2, hb2⟩
          have hr2' : w2.ownsRow wc.heap.size 44 2 v2 0 (fl eI eI []) := hr2
          obtain ⟨qa, qc, rfl⟩ := own_slice hr2'
          have HT2 := Lib.hid (HT0.out.step hb2)
          have HR2 := Lib.hid (own_below HR0.out hb2)
          have HA2 : Hid (w2.ownsRow wc.heap.size 44 2 (.slice qa 0 qc) ([] : List (Int × Int)).length (fl eI eI [])) := Lib.hid hr2
          have HD2 := Lib.hid (HD0.out.below hb2)
          have hnx : Calls Try.prog 17 #[.pointer (some ⟨g', 0, none⟩)] w2 fun e w' => e = .returned (.tuple #[.int .i64 0, .bool false]) ∧ w2 = w' := tim_next HT2.out
          have HNX := Lib.hid hnx
          clear hnx hr2 hr2' hb2 HDA HT0 HR0 HD0
          go_wp2_with fail
          refine HNX.out.mono ?_
          rintro e w3 ⟨rfl, rfl⟩
          have HTO := Lib.hid (told_any HT2.out _ _ HA2.out (by simp))
          go_wp2_with fail
          refine HTO.out.mono ?_
          rintro e w4 ⟨rfl, hb4⟩
          have HT4 := Lib.hid (HT2.out.step hb4)
          have HR4 := Lib.hid (own_below HR2.out hb4)
          have HD4 := Lib.hid (HD2.out.below hb4)
          have hln : Calls Try.prog 19 #[.pointer (some ⟨g', 0, none⟩)] w4 fun e w' => e = .returned (.int .i64 0) ∧ w4 = w' := tim_len HT4.out
          have HLN := Lib.hid hln
          have HWH := Lib.hid (HWN.out w4 HT4.out)
          obtain ⟨d0, d1, d2⟩ := HD4.out.cells
          clear hb4 hln HT2 HR2 HA2 HD2 HNX HTO
          go_wp2_with fail
          refine HLN.out.mono ?_
          rintro e w5 ⟨rfl, rfl⟩
          go_wp2_with fail
          refine HWH.out.mono ?_
          rintro e w6 ⟨rfl, hb6⟩
          have HT6 := Lib.hid (HT4.out.step hb6)
          have HR6 := Lib.hid (own_below HR4.out hb6)
          clear hb6 d0 d1 d2
          go_wp2_with fail
          go_roundg (gk - 1)
          case measure => omega
          case rel => exact ⟨j + 1, g', [], T', R', by omega, hRj, by go_num, rfl, HTI, HT6, HR6⟩
        | cons x L2 =>
          have hL : ∃ L' : List (Int × Int), L' = x :: L2 ∧ L'[0]? = some x ∧ nxB L' = true ∧ nxV L' = x.2 ∧ 0 < L'.length ∧ L'.length ≤ 100 := ⟨_, rfl, rfl, rfl, rfl, by simp, by simpa using hlb⟩
          obtain ⟨L', hL', hx0, hB1, hV1, hN1, hlb⟩ := hL
          rw [← hL'] at hda HTI HT0
          have HDA := Lib.hid hda
          clear hda hL'
          go_wp2_with fail
          refine HDA.out.mono ?_
          rintro e w2 ⟨v2, rfl, hr2, hb2⟩
          obtain ⟨qa, qc, rfl⟩ := own_slice hr2
          have HT2 := Lib.hid (HT0.out.step hb2)
          have HR2 := Lib.hid (own_below HR0.out hb2)
          have HA2 := Lib.hid (own_less hr2 HT0.out.bel.size)
          have HD2 := Lib.hid (HD0.out.below hb2)
          have hnx := tim_next HT2.out
          clear hr2 hb2 HDA HT0 HR0 HD0
          rw [hB1, hV1] at hnx
          have HNX := Lib.hid hnx
          have t0 : decide ((0 : Int) < (L'.length : Int)) = true := decide_eq_true (by omega)
          have t00 : (0 : Int) < (L'.length : Int) := by omega
          have HX0 := Lib.hid hx0
          obtain ⟨xk, xv⟩ := x
          clear hnx hB1 hV1 hx0
          go_wp2_with fail
          refine HNX.out.mono ?_
          rintro e w3 ⟨rfl, rfl⟩
          have HTO := Lib.hid (told_any HT2.out _ _ HA2.out (by omega))
          go_wp2_with fail
          refine HTO.out.mono ?_
          rintro e w4 ⟨rfl, hb4⟩
          have HT4 := Lib.hid (HT2.out.step hb4)
          have HR4 := Lib.hid (own_below HR2.out hb4)
          have HA4 := Lib.hid (own_below HA2.out hb4)
          have HD4 := Lib.hid (HD2.out.below hb4)
          obtain ⟨qb, rfl, hqb, hqc, hqm, q0, q1⟩ := rows_at HA4.out HX0.out
          simp only [Nat.zero_mul, Nat.zero_add] at q0 q1
          simp only [maxLen] at hqm
          have HLN := Lib.hid (tim_len HT4.out)
          have hwh := tim_when dn HT4.out HTI.out (by omega)
          have HWHO := Lib.hid hwh
          obtain ⟨d0, d1, d2⟩ := HD4.out.cells
          clear hb4 hwh HT2 HR2 HA2 HD2 HNX HTO
          go_wp2_with fail
          refine HLN.out.mono ?_
          rintro e w5 ⟨rfl, rfl⟩
          cases hh : dhas dn R' with
          | false =>
            have hwh := HWHO.out
            rw [hh] at hwh
            generalize dgetI dn R' = G at hwh
            have HWH := Lib.hid hwh
            clear hh hwh HWHO
            go_wp2_with fail
            refine HWH.out.mono ?_
            rintro e w6 ⟨rfl, hb6⟩
            have HT6 := Lib.hid (HT4.out.step hb6)
            have HR6 := Lib.hid (own_below HR4.out hb6)
            clear hb6 d0 d1 d2
            go_wp2_with fail
            go_roundg (gk - 1)
            case measure => omega
            case rel => exact ⟨j + 1, g', L', T', R', by omega, hRj, by go_num, rfl, HTI, HT6, HR6⟩
          | true =>
            have hwh := HWHO.out
            rw [hh] at hwh
            have hcl := HTI.out.cut_len hh
            have hdw := dwhen_yes hh
            obtain ⟨Lc, hLc⟩ : ∃ Lc, dcut dn L' = Lc := ⟨_, rfl⟩
            rw [hLc] at hcl
            obtain ⟨G, hG⟩ : ∃ G, dgetI dn R' = G := ⟨_, rfl⟩
            rw [hG] at hwh hdw
            have HG := Lib.hid hG
            have HDW := Lib.hid hdw
            have HLC := Lib.hid hLc
            have HWH := Lib.hid hwh
            have t1 : ((Lc.length : Int) != (L'.length : Int) - 1) = false := by simp; omega
            have hl1 : 1 ≤ L'.length := by omega
            have hlc2 : Lc.length ≤ 100 := by omega
            clear hh hwh HWHO hcl hdw hG hLc
            go_wp2_with fail
            refine HWH.out.mono ?_
            rintro e w6 ⟨rfl, hb6⟩
            have HT6 := Lib.hid (HT4.out.step hb6)
            have HR6 := Lib.hid (own_below HR4.out hb6)
            have HD6 := Lib.hid (HD4.out.below hb6)
            have HA6 := Lib.hid (own_below HA4.out hb6)
            have hdc := dcut_any w6 _ _ L' dn HA6.out (by omega)
            rw [HLC.out] at hdc
            generalize decide (Lc.length < L'.length) = B at hdc
            have HDC := Lib.hid hdc
            clear hb6 hdc d0 d1 d2
            obtain ⟨d0, d1, d2⟩ := HD6.out.cells
            go_wp2_with fail
            refine HDC.out.mono ?_
            rintro e w7 ⟨v7, rfl, hr7, hb7⟩
            obtain ⟨ua, uc, rfl⟩ := own_slice hr7
            have HT7 := Lib.hid (HT6.out.step hb7)
            have HR7 := Lib.hid (own_below HR6.out hb7)
            have HD7 := Lib.hid (HD6.out.below hb7)
            have hdg := dget_any w7 _ _ R' dn HR7.out (by omega)
            rw [HDW.out] at hdg
            have HDG := Lib.hid hdg
            clear hr7 hb7 hdg d0 d1 d2
            obtain ⟨d0, d1, d2⟩ := HD7.out.cells
            go_wp2_with fail
            refine HDG.out.mono ?_
            rintro e w8 ⟨rfl, rfl⟩
            go_wp2_with fail
            go_roundg (gk - 1)
            case measure => omega
            case rel => exact ⟨j + 1, g', L', T', R', by omega, hRj, by go_num, rfl, HTI, HT7, HR7⟩
    · obtain rfl : j = K := by omega
      have hcs : ((n : Int) ≤ (j : Int)) ∨ ((j : Int) < (n : Int) ∧ (40 : Int) ≤ (j : Int)) := by have := HK.out; omega
      rcases hcs with hcs | ⟨hcs, hcs2⟩
      all_goals
        go_wp2_with fail
        refine (live_any _).mono ?_
        rintro e w2 ⟨rfl, hb2⟩
        go_wp2_with fail
        go_ret
        exact ⟨rfl, (HT.out.step hb2).bel⟩
end Go.Proofs.Ytbabohioeeandaa
