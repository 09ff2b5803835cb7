/- TimerOrder, walked. -/
import Derived.Test.YtbabohioeeandaaUd
import Derived.StillTailTactics
namespace Go.Proofs.Ytbabohioeeandaa
open Go.RowKit
set_option linter.unusedSimpArgs false
set_option linter.unusedVariables false

theorem i64_and63 (n : Int) : bits .and .i64 n 63 = n % 64 := by
  have h3 : (BitVec.ofInt 64 63).toNat = 2 ^ 6 - 1 := by decide
  have key : (BitVec.ofInt 64 n &&& BitVec.ofInt 64 63).toNat = (n % ((2 ^ 64 : Nat) : Int)).toNat % 2 ^ 6 := by
    rw [BitVec.toNat_and, BitVec.toNat_ofInt, h3, Nat.and_two_pow_sub_one_eq_mod]
  show IntKind.i64.wrap ((BitVec.ofInt 64 n &&& BitVec.ofInt 64 63).toNat : Nat) = n % 64
  rw [key, IntKind.wrap_i64]
  omega
theorem dput_at {R : List (Int × Int)} {k v : Int} (h : ∀ x ∈ R, 0 ≤ x.2 ∧ x.2 ≤ 63) (hv : 0 ≤ v ∧ v ≤ 63) : ∀ x ∈ dput k v R, 0 ≤ x.2 ∧ x.2 ≤ 63 := fun x hx => by
  rcases List.mem_append.1 hx with hx | hx
  · exact h x (List.mem_filter.1 hx).1
  · simp only [List.mem_singleton] at hx; subst hx; exact hv
theorem dcuts_sub (l : List (Int × Int)) : ∀ R : List (Int × Int), ∀ x ∈ dcuts l R, x ∈ R := by
  induction l with
  | nil => exact fun R x hx => hx
  | cons a l ih => exact fun R x hx => (List.mem_filter.1 (ih _ x hx)).1
theorem kpt_row {w w' : World} (h : OthT w w') : KpT 44 w w' := h _ (by decide) (by decide) (by decide) (by decide)
theorem DeedAt.deeds {w : World} {B : Nat} {A : Option Addr} {n c : Nat} {fs : Nat → D3} (h : Deeds w B A n c fs) {w' : World} (hb : Below B w w') : Deeds w' B A n c fs :=
  ⟨h.cap, h.max, fun hn => by
    obtain ⟨b, off, e, hlt, hc⟩ := h.cells hn
    exact ⟨b, off, e, hlt, fun i hi => (hc i hi).below hlt hb⟩⟩
set_option maxRecDepth 100000 in
set_option maxHeartbeats 20000000 in
theorem order_walk (A0 : Option Addr) (n c0 : Nat) (ds : Nat → D3) (A1 : Option Addr) (n1 c1 : Nat) (l : List Int) (w : World) (h : Deeds w w.heap.size A0 n c0 ds) (hB : Byt w w.heap.size A1 n1 c1 l) :
    Calls Try.prog 4 #[.slice A0 n c0, .slice A1 n1 c1] w fun e w' => e = .returned (.bool true) ∧ Below w.heap.size w w' := by
  have hcap := h.cap
  have hmax := h.max
  simp only [maxLen] at hmax
  obtain ⟨K, hK⟩ : ∃ K : Nat, (K = n ∧ n ≤ 20) ∨ (K = 20 ∧ 20 < n) := by
    rcases Nat.lt_or_ge 20 n with h | h
    · exact ⟨20, .inr ⟨rfl, h⟩⟩
    · exact ⟨n, .inl ⟨rfl, h⟩⟩
  have hKn : K ≤ n ∧ K ≤ 20 := by omega
  have HDS := Lib.hid h
  have HBY := Lib.hid hB
  have HK := Lib.hid hK
  obtain ⟨hK1, hK2⟩ := hKn
  clear h hK hB
  go_enter Try.func4, Try.ntmps4
  go_wp2_with fail
  refine (tim_new w w (Below.refl _ _)).mono ?_
  rintro e w1 ⟨g, rfl, hx1, hb1⟩
  have hal : Below w1.heap.size w1 (w1.alloc (.cells #[] 44)) := (Below.refl _ _).alloc (Nat.le_refl _) _
  have HT := Lib.hid (hx1.step hal)
  have HR := Lib.hid (own_made w1 w.heap.size 44 2 hb1.size)
  clear hx1 hb1 hal
  go_wp2_with fail
  go_loopw [6, 7] (fun r i wr => ∃ (j : Nat) (L T R : List (Int × Int)), j ≤ K ∧ R.length ≤ j ∧ i = .int .i64 j ∧ Hid (TieT L T R) ∧ Hid (∀ x ∈ R, 0 ≤ x.2 ∧ x.2 ≤ 63) ∧ Hid (TimAt w g L T wr) ∧ Hid (wr.ownsRow w.heap.size 44 2 r R.length (fl eI eI R))) (fun _ i _ => K - (intOf i).toNat)
  case atStart => exact ⟨0, [], [], [], Nat.zero_le _, Nat.le_refl _, rfl, Lib.hid tieT_nil, Lib.hid (by simp), HT, HR⟩
  case round =>
    clear HT HR
    obtain ⟨j, L, T, R, hj, hRj, rfl, HTI, HRG, HT, HR⟩ := hrel
    obtain ⟨ra, rc, rfl⟩ := own_slice HR.out
    by_cases hlt : j < K
    · have hlt' : j < n := by omega
      obtain ⟨b, off, rfl, hbb, hcl'⟩ := HDS.out.cells (by omega)
      have hf := (hcl' j hlt').below hbb HT.out.bel
      have cn := hf.cn
      have cu := hf.cu
      generalize ds j = f at hf cn cu
      obtain ⟨k, dn, du⟩ := f
      simp only at cn cu
      rw [Nat.mul_comm] at cn cu
      have hjn : (j : Int) < (n : Int) := by omega
      have hj20 : (j : Int) < 20 := by omega
      have hst := tim_set (w := wr.drew) dn (du % 64) (HT.out.step (below_drewN (Below.refl _ _) 1)) HTI.out (by omega)
      rw [← i64_and63] at hst
      have HST := Lib.hid hst
      clear hf hcl' hst
      go_wp2_with fail
      go_still_tail 12, (by kernel_rfl)
      change wpList _ _ _ _ _ wr.drew
      go_wp2_with fail
      refine HST.out.mono ?_
      rintro e w2 ⟨rfl, L2, T2, ht2, hx2, ho2⟩
      have HTI2 := Lib.hid ht2
      have HT2 := Lib.hid hx2
      have hr2 := kpt_own (kpt_row ho2) (own_below HR.out (below_drewN (Below.refl _ _) 1))
      have HR2 := Lib.hid hr2
      have hdb : Below w.heap.size w w2 := hx2.bel
      have cn2 := (hdb.cell (p := ⟨b, off + j * 3 + 1, none⟩) hbb).trans ((HT.out.bel.cell (p := ⟨b, off + j * 3 + 1, none⟩) hbb).symm.trans cn)
      have cu2 := (hdb.cell (p := ⟨b, off + j * 3 + 2, none⟩) hbb).trans ((HT.out.bel.cell (p := ⟨b, off + j * 3 + 2, none⟩) hbb).symm.trans cu)
      have hdp := dput_any w2.drew _ _ R dn (bits BinOp.and IntKind.i64 du 63) (own_below hr2 (below_drewN (Below.refl _ _) 1)) (by omega)
      have HDP := Lib.hid hdp
      clear ht2 hx2 ho2 hr2 hdb hdp cn cu
      go_wp2_with fail
      go_still_tail 12, (by kernel_rfl)
      change wpList _ _ _ _ _ w2.drew
      go_wp2_with fail
      refine HDP.out.mono ?_
      rintro e w3 ⟨v3, rfl, hr3, hb3⟩
      have hb3' : Below w2.heap.size w2 w3 := (below_drewN (Below.refl _ _) 1).trans hb3
      have HT3 := Lib.hid (HT2.out.step hb3')
      have HR3 := Lib.hid (own_less hr3 (Nat.le_trans HT2.out.bel.size (Nat.le_refl _)))
      have HRG3 : Hid (∀ x ∈ dput dn (bits BinOp.and IntKind.i64 du 63) R, 0 ≤ x.2 ∧ x.2 ≤ 63) := Lib.hid (dput_at HRG.out (by rw [i64_and63]; omega))
      have hln := dput_le dn (bits BinOp.and IntKind.i64 du 63) R
      obtain ⟨qa, qc, rfl⟩ := own_slice hr3
      clear hr3 hb3 hb3' cn2 cu2
      go_wp2_with fail
      exact ⟨⟨j + 1, _, _, _, by omega, by omega, by go_num, HTI2, HRG3, HT3, HR3⟩, by simp [intOf]; omega⟩
    · obtain rfl : j = K := by omega
      have hcs : ((n : Int) ≤ (j : Int)) ∨ ((j : Int) < (n : Int) ∧ (20 : Int) ≤ (j : Int)) := by have := HK.out; omega
      have HGK : Hid (∀ G : Nat, G ≤ j → (G : Int) ≤ 20 ∧ (G : Int) ≤ n) := Lib.hid fun G hG => by omega
      obtain ⟨M, hM⟩ : ∃ M : Nat, (M = n1 ∧ n1 ≤ 40) ∨ (M = 40 ∧ 40 < n1) := by
        rcases Nat.lt_or_ge 40 n1 with h | h
        · exact ⟨40, .inr ⟨rfl, h⟩⟩
        · exact ⟨n1, .inl ⟨rfl, h⟩⟩
      have HMM := Lib.hid hM
      have hM1 : M ≤ n1 ∧ M ≤ 40 := by omega
      obtain ⟨hM1, hM2⟩ := hM1
      have hBm : n1 ≤ 9223372036854775807 := by
        have h1 := HBY.out.cap
        have h2 := HBY.out.max
        simp only [maxLen] at h2
        omega
      clear hM
      rcases hcs with hcs | ⟨hcs, hcs2⟩
      all_goals
        go_wp2_with fail
        go_loopw [6, 8, 9] (fun r gt i wr => ∃ (q G : Nat) (L T R : List (Int × Int)), q ≤ 64 ∧ G + R.length ≤ j ∧ i = .int .i64 q ∧ gt = .int .i64 G ∧ Hid (q = 64 → R = []) ∧ Hid (TieT L T R) ∧ Hid (∀ x ∈ R, 0 ≤ x.2 ∧ x.2 ≤ 63) ∧ Hid (TimAt w g L T wr) ∧ Hid (wr.ownsRow w.heap.size 44 2 r R.length (fl eI eI R))) (fun _ _ i _ => 64 - (intOf i).toNat)
        case atStart => exact ⟨0, 0, L, T, R, by omega, by omega, rfl, rfl, Lib.hid (by omega), HTI, HRG, HT, HR⟩
        case round =>
          clear HT HR HTI HRG hRj
          obtain ⟨q, G, L, T, R, hq, hGR, rfl, rfl, HQ, HTI, HRG, HT, HR⟩ := hrel
          obtain ⟨ra, rc, rfl⟩ := own_slice HR.out
          obtain ⟨wA, hwA⟩ : ∃ x, x = wr := ⟨wr, rfl⟩
          subst hwA
          by_cases hlt : q < 64
          · have hqI : (q : Int) < 64 := by omega
            have HQB0 : Hid (q = 63 → ((q : Int) == 63) = true) := Lib.hid (fun h => by subst h; rfl)
            go_wp2_with fail
            go_loopw [10, 11] (fun ak i wq => ∃ (b : Bool) (p : Nat), p ≤ M ∧ ak = .bool b ∧ i = .int .i64 p ∧ Hid (q = 63 → b = true) ∧ wq = wA) (fun _ i _ => M - (intOf i).toNat)
            case atStart => exact ⟨_, 0, Nat.zero_le _, rfl, rfl, HQB0, by first | trivial | rfl⟩
            case round =>
              clear HQB0
              obtain ⟨b, p, hp, rfl, rfl, HQB, rfl⟩ := hrel
              by_cases hlp : p < M
              · have hlp' : p < n1 := by omega
                obtain ⟨b1, off1, rfl, hb1, hc1⟩ := HBY.out.cells (by omega)
                have hcell := (HT.out.bel.cell (p := ⟨b1, off1 + p, none⟩) hb1).trans (hc1 p hlp')
                have hrange := HBY.out.range p
                generalize l.getD p 0 = x at hcell hrange
                have hpn : (p : Int) < (n1 : Int) := by omega
                have hp40 : (p : Int) < 40 := by omega
                clear hc1
                cases b
                · have HQN : Hid (¬ q = 63) := Lib.hid (fun h => by have := HQB.out h; cases this)
                  clear HQB
                  go_wp2_with fail
                  all_goals exact ⟨⟨_, p + 1, by omega, rfl, by go_num, Lib.hid (fun h => absurd h HQN.out), by first | trivial | rfl⟩, by simp [intOf]; omega⟩
                · go_wp2_with fail
                  exact ⟨⟨true, p + 1, by omega, rfl, by go_num, HQB, by first | trivial | rfl⟩, by simp [intOf]; omega⟩
              · obtain rfl : p = M := by omega
                have hcs3 : ((n1 : Int) ≤ (p : Int)) ∨ ((p : Int) < (n1 : Int) ∧ (40 : Int) ≤ (p : Int)) := by have := HMM.out; omega
                rcases hcs3 with hcs3 | ⟨hcs3, hcs4⟩
                all_goals
                  cases b
                  · have HQN : Hid (q + 1 = 64 → R = []) := Lib.hid (fun h => by have := HQB.out (by omega); cases this)
                    clear HQB
                    go_wp2_with fail
                    exact ⟨⟨q + 1, G, L, T, R, by omega, hGR, by go_num, rfl, HQN, HTI, HRG, HT, HR⟩, by simp [intOf]; omega⟩
                  · clear HQB
                    have HTK := Lib.hid (tim_take (q : Int) HT.out HTI.out (by omega))
                    go_wp2_with fail
                    refine HTK.out.mono ?_
                    rintro e w2 ⟨m, ka, kc, hm, hle, hgt, rfl, hkv, ht2, hx2, ho2⟩
                    have HLE := Lib.hid hle
                    have HGT := Lib.hid hgt
                    have HKV := Lib.hid hkv
                    have HTI2 := Lib.hid ht2
                    have HT2 := Lib.hid hx2
                    have HR2 := Lib.hid (kpt_own (kpt_row ho2) HR.out)
                    have HM := Lib.hid hm
                    clear hle hgt hkv ht2 hx2 ho2 hm
                    have HR20 : Hid (w2.ownsRow w.heap.size 44 2 (.slice ra R.length rc) (dcuts (L.take 0) R).length (fl eI eI (dcuts (L.take 0) R))) := HR2
                    have HB20 := Lib.hid (Below.refl w2.heap.size w2)
                    have HLR := Lib.hid HTI.out.len
                    go_wp2_with fail
                    go_loopw [6, 8, 87] (fun r gt i wq => ∃ p : Nat, p ≤ m ∧ i = .int .i64 p ∧ gt = .int .i64 ((G + p : Nat) : Int) ∧ Hid (Below w2.heap.size w2 wq) ∧ Hid (wq.ownsRow w.heap.size 44 2 r (dcuts (L.take p) R).length (fl eI eI (dcuts (L.take p) R)))) (fun _ _ i _ => m - (intOf i).toNat)
                    case atStart => exact ⟨0, Nat.zero_le _, rfl, by go_num, HB20, HR20⟩
                    case round =>
                      clear HR20 HB20 HR2
                      obtain ⟨p, hp, rfl, rfl, HBW, HRW⟩ := hrel
                      obtain ⟨wC, hwC⟩ : ∃ x, x = wr := ⟨wr, rfl⟩
                      subst hwC
                      obtain ⟨rwa, rwc, rfl⟩ := own_slice HRW.out
                      have hlp := (HTI.out.takes p (by have := HM.out; omega)).len
                      have hld : (L.drop p).length = L.length - p := List.length_drop
                      have hlr := HLR.out
                      have hRW : (dcuts (L.take p) R).length + p = R.length := by have := HM.out; omega
                      clear hlp hld hlr
                      by_cases hpm : p < m
                      · obtain ⟨x, hx⟩ : ∃ x, L[p]? = some x := ⟨_, List.getElem?_eq_getElem (show p < L.length by have := HM.out; omega)⟩
                        obtain ⟨gk, cap, cur, e1, hgk1, hgk, hnc, hmx, _⟩ := own_some HKV.out (by omega)
                        cases e1
                        simp only [maxLen] at hmx
                        have hcell : wC.cell? ⟨gk, p, none⟩ = some (.int .i64 x.1) := by
                          have h2 := own_cell HKV.out (k := p) (by omega)
                          rw [HBW.out.cell (p := ⟨gk, p, none⟩) (Array.getElem?_eq_some_iff.1 hgk).1, h2, List.getElem?_map, List.getElem?_take, if_pos hpm, hx]
                          rfl
                        obtain ⟨hh1, hh2⟩ := HTI.out.head hx (by have := HM.out; omega)
                        have hwn := dget_any wC _ _ (dcuts (L.take p) R) x.1 HRW.out (by omega)
                        rw [dwhen_yes hh1, hh2] at hwn
                        have hxr := HRG.out x (HTI.out.lp.mem_iff.1 (List.mem_of_getElem? hx))
                        have hxq : x.2 ≤ (q : Int) := HLE.out x (List.mem_iff_getElem?.2 ⟨p, by rw [List.getElem?_take, if_pos hpm]; exact hx⟩)
                        have hst := dcut_any wC _ _ (dcuts (L.take p) R) x.1 HRW.out (by omega)
                        have hsn : dcuts (L.take (p + 1)) R = dcut x.1 (dcuts (L.take p) R) := by rw [← dcuts_snoc, take_at' hx]
                        rw [← hsn] at hst
                        have hxr1 := hxr.1
                        obtain ⟨xk, xv⟩ := x
                        simp only at hcell hwn hst hxr1 hxq
                        have HWN := Lib.hid hwn
                        have HST := Lib.hid hst
                        have hGp : (G + p : Nat) ≤ 20 := by omega
                        have hpI : (p : Int) < (m : Int) := by omega
                        clear hwn hst hh1 hh2 hgk hsn hx hxr
                        go_wp2_with fail
                        refine HWN.out.mono ?_
                        rintro e w5 ⟨rfl, rfl⟩
                        go_wp2_with fail
                        refine HST.out.mono ?_
                        rintro e w6 ⟨v6, rfl, hr6, hb6⟩
                        have HB6 := Lib.hid (below_trans' HBW.out hb6)
                        have HR6 := Lib.hid (own_less hr6 (Nat.le_trans HT2.out.bel.size HBW.out.size))
                        obtain ⟨qa, qc, rfl⟩ := own_slice hr6
                        clear hr6 hb6
                        go_wp2_with fail
                        exact ⟨⟨p + 1, by omega, by go_num, by go_num, HB6, HR6⟩, by simp [intOf]; omega⟩
                      · obtain rfl : p = m := by omega
                        have hmem : ∀ x ∈ dcuts (L.take p) R, (q : Int) < x.2 := fun x hx => HGT.out x (HTI2.out.lp.mem_iff.2 hx)
                        have HMEM := Lib.hid hmem
                        have HTI3 := Lib.hid (show TieT (L.drop p) (cutsI (L.take p) T) (dcuts (L.take p) R) from HTI2.out)
                        have HT3 := Lib.hid (show TimAt w g (L.drop p) (cutsI (L.take p) T) wC from HT2.out.step HBW.out)
                        have HRG3 := Lib.hid (show ∀ x ∈ dcuts (L.take p) R, 0 ≤ x.2 ∧ x.2 ≤ 63 from fun x hx => HRG.out x (dcuts_sub _ _ x hx))
                        have HGR3 : Hid (G + p + (dcuts (L.take p) R).length ≤ j) := Lib.hid (by omega)
                        clear HTI2 HT2 HLE HGT HKV HBW HTK hmem hRW HTI HT HR HRG
                        generalize dcuts (L.take p) R = R' at *
                        generalize cutsI (L.take p) T = T' at *
                        generalize L.drop p = L' at *
                        go_wp2_with fail
                        go_loopw [15] (fun i wq => ∃ y : Nat, y ≤ R'.length ∧ i = .int .i64 y ∧ wq = wC) (fun i _ => R'.length - (intOf i).toNat)
                        case atStart => exact ⟨0, Nat.zero_le _, rfl, by first | trivial | rfl⟩
                        case round =>
                          obtain ⟨y, hy, rfl, rfl⟩ := hrel
                          by_cases hyl : y < R'.length
                          · obtain ⟨x, hx⟩ : ∃ x, R'[y]? = some x := ⟨_, List.getElem?_eq_getElem hyl⟩
                            obtain ⟨gr, er, hgr, hnc2, hm2, k0, k1⟩ := rows_at HRW.out hx
                            cases er
                            simp only [maxLen] at hm2
                            have hgt := HMEM.out x (List.mem_of_getElem? hx)
                            obtain ⟨xk, xv⟩ := x
                            simp only at k0 k1 hgt
                            have hyI : (y : Int) < (R'.length : Int) := by omega
                            clear hx
                            go_wp2_with fail
                            exact ⟨⟨y + 1, by omega, by go_num, by first | trivial | rfl⟩, by simp [intOf]; omega⟩
                          · obtain rfl : y = R'.length := by omega
                            have HQ3 : Hid (q + 1 = 64 → R' = []) := Lib.hid (fun h => by
                              cases hR : R' with
                              | nil => rfl
                              | cons x R2 =>
                                have h1 := HMEM.out x (by rw [hR]; simp)
                                have h2 := HRG3.out x (by rw [hR]; simp)
                                omega)
                            go_wp2_with fail
                            exact ⟨⟨q + 1, G + p, L', T', R', by omega, HGR3.out, by go_num, rfl, HQ3, HTI3, HRG3, HT3, HRW⟩, by simp [intOf]; omega⟩
          · obtain rfl : q = 64 := by omega
            have hR0 := HQ.out rfl
            subst hR0
            have hL0 : L = [] := List.eq_nil_of_length_eq_zero (by have := HTI.out.len.1; simpa using this)
            subst hL0
            have hGb := HGK.out G (by simpa using hGR)
            obtain ⟨hG1, hG2⟩ := hGb
            go_wp2_with fail
            refine (live_any _).mono ?_
            rintro e w4 ⟨rfl, hb4⟩
            have HT4 := Lib.hid (HT.out.step hb4)
            have HLN := Lib.hid (tim_len HT4.out)
            clear hb4
            go_wp2_with fail
            refine HLN.out.mono ?_
            rintro e w5 ⟨rfl, rfl⟩
            go_wp2_with fail
            all_goals
              go_ret
              exact ⟨by first | rfl | (congr 2; simp; omega), HT4.out.bel⟩
end Go.Proofs.Ytbabohioeeandaa
