/- The document's step. -/
import Derived.Test.YtjofgomnnpeepaaGy
import Derived.Test.YtjofgomnnpeepaaGv
import Derived.Deep.RegionHeldLaw
namespace Go.Proofs.Ytjofgomnnpeepaa
open Go.RowKit Go.Sort

theorem diff_unique {a b n m : Nat} (h : Diff a b n) (k : Diff a b m) : n = m :=
  Classical.byContradiction fun e => (h.2 n h.1).1 ((k.2 n h.1).2 e) rfl
theorem unl_unique {a b : Nat} {r s : Int} (h : Unl a b r) (k : Unl a b s) : r = s := by
  rcases h with ⟨n, h1, h2⟩ | ⟨h1, h2⟩ <;> rcases k with ⟨m, k1, k2⟩ | ⟨k1, k2⟩
  · rw [h1, k1, diff_unique h2 k2]
  · exact absurd h2 (k2 n)
  · exact absurd k2 (h2 m)
  · rw [h1, k1]
theorem unl_has (a b : Nat) : ∃ r, Unl a b r := by
  by_cases h : ∃ n, Diff a b n
  · obtain ⟨n, hn⟩ := h
    exact ⟨n, .inl ⟨n, rfl, hn⟩⟩
  · exact ⟨-1, .inr ⟨rfl, fun n hn => h ⟨n, hn⟩⟩⟩
/-- What is left of the codes' list behind j places: b is gone. -/
def restL (cs : List Nat) (b : Nat) (g : Nat → Int) (j : Nat) : List (Int × Int) := ((cs.take j).filter fun x => x != b).map fun x : Nat => ((x : Int), g x)
theorem restL_take (cs : List Nat) (b : Nat) (g : Nat → Int) {j : Nat} (h : j < cs.length) : restL cs b g (j + 1) = restL cs b g j ++ (if cs.getD j 0 != b then [(((cs.getD j 0 : Nat) : Int), g (cs.getD j 0))] else []) := by
  unfold restL
  rw [List.take_succ_eq_append_getElem h, List.filter_append, List.map_append]
  congr 1
  have e : cs.getD j 0 = cs[j] := by rw [List.getD_eq_getElem?_getD, List.getElem?_eq_getElem h]; rfl
  rw [e]
  cases hx : cs[j] != b <;> simp [hx]
theorem codes_gone {M : Nat → Int} {a n : Nat} (h : First M a n) (N : Nat) : (codes M N).filter (fun x => x != a ||| 2 ^ n) = codes (nxt M a n) N := by
  obtain ⟨ha, hn, ⟨k, hk, hb, hab, hr⟩, _⟩ := h
  unfold codes
  rw [List.filter_filter]
  apply List.filter_congr
  intro q _
  have hpk := pow_le_of_bit hb
  unfold nxt
  by_cases e1 : q = a
  · subst e1
    have : q ≠ q ||| 2 ^ n := fun e => second_ne hab e.symm
    have h1 : ¬ (k : Int) = -1 := by omega
    have h2 : ¬ (k : Int) - ((2 ^ n : Nat) : Int) = -1 := by omega
    rw [if_pos rfl, hk, Bool.eq_iff_iff]
    simp only [Bool.and_eq_true, bne_iff_ne, ne_eq]
    exact ⟨fun _ => h2, fun _ => ⟨this, h1⟩⟩
  · rw [if_neg e1]
    by_cases e2 : q = a ||| 2 ^ n
    · rw [if_pos e2]; simp [e2]
    · rw [if_neg e2]; simp [e2]
theorem restL_end {M : Nat → Int} {a n : Nat} (h : First M a n) : restL (codes M 2048) (a ||| 2 ^ n) (nxt M a n) (codes M 2048).length = filL (nxt M a n) 2048 := by
  unfold restL filL
  rw [List.take_length, codes_gone h]
theorem restL_len (cs : List Nat) (b : Nat) (g : Nat → Int) (j : Nat) : (restL cs b g j).length ≤ j := by
  unfold restL
  rw [List.length_map]
  have h1 := List.length_filter_le (fun x => x != b) (cs.take j)
  have h2 : (cs.take j).length ≤ j := by rw [List.length_take]; omega
  omega
theorem restL_in {cs : List Nat} {b : Nat} {g : Nat → Int} {j a : Nat} {z : Int} (h : j < cs.length) (ha : cs.getD j 0 = a) (hab : a ≠ b) (hz : g a = z) :
    (restL cs b g (j + 1)).flatMap two = (restL cs b g j).flatMap two ++ [.int .i64 (a : Int), .int .i64 z] ∧ (restL cs b g (j + 1)).length = (restL cs b g j).length + 1 := by
  have e := restL_take cs b g h
  have hb : (a != b) = true := by simpa using hab
  rw [ha, hb, hz] at e
  constructor
  · rw [e, List.flatMap_append]; simp [two]
  · rw [e]; simp
theorem restL_out {cs : List Nat} {b : Nat} {g : Nat → Int} {j : Nat} (h : j < cs.length) (ha : cs.getD j 0 = b) : restL cs b g (j + 1) = restL cs b g j := by
  have e := restL_take cs b g h
  rw [ha] at e
  simpa using e
theorem map_getD (cs : List Nat) (f : Nat → Int × Int) {t : Nat} (h : t < cs.length) : (cs.map f).getD t (0, 0) = f (cs.getD t 0) := by
  simp [List.getD, List.getElem?_eq_getElem h]
theorem fil_at (M : Nat → Int) {t : Nat} (h : t < (codes M 2048).length) : (filL M 2048).getD t (0, 0) = ((((codes M 2048).getD t 0 : Nat) : Int), M ((codes M 2048).getD t 0)) :=
  map_getD _ (fun q : Nat => ((q : Int), M q)) h
theorem fil_set {w w' : World} {F : Nat} {a b v : Value} {t : TypeId} (h : w.heap[F]? = some (.cells #[a, b] t (0, 0))) (e : w'.heap = w.heap) :
    (w'.setCell ⟨F, 0, none⟩ v).heap[F]? = some (.cells #[v, b] t (0, 0)) ∧ (w'.setCell ⟨F, 1, none⟩ v).heap[F]? = some (.cells #[a, v] t (0, 0)) := by
  rw [← e] at h
  constructor <;> simp [World.setCell, Array.getElem?_modify, h]
theorem below_same {B : Nat} {a w w' : World} (hb : Below B a w) (h : w'.heap = w.heap ∧ w'.os = w.os ∧ w'.tape = w.tape ∧ w'.output = w.output) : Below B a w' :=
  ⟨h.2.1.trans hb.os, h.2.2.1.trans hb.tape, h.2.2.2.trans hb.output, by rw [h.1]; exact hb.size, fun k hk => by rw [h.1]; exact hb.block k hk⟩
theorem below_set {B F o : Nat} {a w : World} (hb : Below B a w) (hF : B ≤ F) (v : Value) : Below B a (w.setCell ⟨F, o, none⟩ v) := hb.setCell (p := ⟨F, o, none⟩) hF v
theorem below_setd {B F o : Nat} {a w : World} (hb : Below B a w) (hF : B ≤ F) (v : Value) : Below B a (w.setCell ⟨F, o, none⟩ v).drew :=
  ⟨(below_set (o := o) hb hF v).os, (below_set (o := o) hb hF v).tape, (below_set (o := o) hb hF v).output, (below_set (o := o) hb hF v).size, (below_set (o := o) hb hF v).block⟩
def Stepped (M : Nat → Int) (A : Option Addr) (c : Nat) (e : Ending) (w' : World) : Prop :=
  (∃ a i A' c', First M a i ∧ e = .returned (.tuple #[.slice A' (filL (nxt M a i) 2048).length c', .bool true]) ∧ Fils w' w'.heap.size A' (filL (nxt M a i) 2048).length c' (fun t => (filL (nxt M a i) 2048).getD t (0, 0))) ∨
  (NoPair M ∧ e = .returned (.tuple #[.slice A (codes M 2048).length c, .bool false]))

set_option maxRecDepth 40000 in
set_option maxHeartbeats 4000000 in
theorem step_any (w : World) (A : Option Addr) (c : Nat) (M : Nat → Int) (hF : Fit M) (hU : Und M) (h : Fils w w.heap.size A (codes M 2048).length c (fun t => (filL M 2048).getD t (0, 0))) :
    Calls Try.prog 30 #[.slice A (codes M 2048).length c] w fun e w' => Stepped M A c e w' ∧ Below w.heap.size w w' := by
  have HF := Lib.hid h
  have HFit := Lib.hid hF
  have HUnd := Lib.hid hU
  have hcap := h.cap
  have hmax := h.max
  simp only [maxLen] at hmax
  have hat := fun t ht => @codes_at M t ht
  have hlt' := fun s t h1 h2 => @codes_lt M s t h1 h2
  have hfa := fun t ht => @fil_at M t ht
  have hfirst := fun s t n h1 h2 h3 h4 h5 h6 => @first_places M hF hU s t n h1 h2 h3 h4 h5 h6
  have hnone := @noPair_places M
  have hKle := codes_len M 2048
  clear h hF hU
  have HAT := Lib.hid hat
  have HLT := Lib.hid hlt'
  have HFA := Lib.hid hfa
  have HFIRST := Lib.hid hfirst
  have HNONE := Lib.hid hnone
  clear hat hlt' hfa hfirst hnone
  generalize hKd : (codes M 2048).length = K at *
  have HK := Lib.hid hKd
  clear hKd
  go_enter Try.func30, Try.ntmps30
  go_wp2_with fail
  go_loopw [4] (fun i wr => ∃ p : Nat, p ≤ K ∧ i = .int .i64 p ∧ Hid (∀ s t, s < p → s < t → t < K → ¬ PairAt M s t) ∧ Hid (Below w.heap.size w wr)) (fun i _ => K - (intOf i).toNat)
  case atStart => exact ⟨0, by omega, rfl, Lib.hid (fun _ _ h => absurd h (Nat.not_lt_zero _)), Lib.hid (Below.refl _ _)⟩
  case round =>
    obtain ⟨p, hp, rfl, hno, hb⟩ := hrel
    by_cases hpK : p < K
    · go_wp2_with fail
      go_loopw [5] (fun i wr => ∃ q : Nat, p < q ∧ q ≤ K ∧ i = .int .i64 q ∧ Hid (∀ t, p < t → t < q → ¬ PairAt M p t) ∧ Hid (Below w.heap.size w wr)) (fun i _ => K - (intOf i).toNat)
      case atStart => exact ⟨p + 1, by omega, by omega, by go_num, Lib.hid (fun t h1 h2 => absurd h1 (by omega)), hb⟩
      case round =>
        obtain ⟨q, hq, hqK, rfl, hno2, hb⟩ := hrel
        by_cases hlq : q < K
        · have hHF := HF.out.below hb.out
          obtain ⟨b, off, rfl, hbb, hcc⟩ := hHF.cells (by omega)
          obtain ⟨c0, c1⟩ := hcc p hpK
          obtain ⟨c2, c3⟩ := hcc q hlq
          simp only [HFA.out p hpK, HFA.out q hlq] at c0 c1 c2 c3
          obtain ⟨lp, np⟩ := HAT.out p hpK
          obtain ⟨lq, nq'⟩ := HAT.out q hlq
          have hlt := HLT.out p q hq hlq
          have hpair : ¬ (M ((codes M 2048).getD p 0) = M ((codes M 2048).getD q 0) ∧ ∃ n, Diff ((codes M 2048).getD p 0) ((codes M 2048).getD q 0) n) → ∀ t, p < t → t < q + 1 → ¬ PairAt M p t := fun hx t h1 h2 => by
            by_cases e : t = q
            · subst e; exact hx
            · exact hno2.out t h1 (by omega)
          have hfst := fun n h1 h2 => HFIRST.out p q n hq hlq h1 h2 hno.out hno2.out
          obtain ⟨r, hr⟩ := unl_has ((codes M 2048).getD p 0) ((codes M 2048).getD q 0)
          have hun : ∀ v, Calls Try.prog 34 #[.int .i64 (((codes M 2048).getD p 0 : Nat) : Int), .int .i64 (((codes M 2048).getD q 0 : Nat) : Int)] v fun e w' => e = .returned (.int .i64 r) ∧ v = w' := fun v =>
            (unlike_any _ _ lp lq v).mono fun _ _ ⟨⟨r', h1, h2⟩, h3⟩ => ⟨by rw [h1, unl_unique h2 hr], h3⟩
          have hdl := fun n h => @diff_low _ _ n lp lq hlt h
          have hfv := HFit.out _ lp
          have hcell := hcc
          generalize hCp : (codes M 2048).getD p 0 = cp at *
          generalize hCq : (codes M 2048).getD q 0 = cq at *
          generalize hVp : M cp = vp at *
          generalize hVq : M cq = vq at *
          have HPAIR := Lib.hid hpair
          have HFST := Lib.hid hfst
          have HUN := Lib.hid hun
          have HR := Lib.hid hr
          have HDL := Lib.hid hdl
          have HCP := Lib.hid hCp
          have HCQ := Lib.hid hCq
          have HVP := Lib.hid hVp
          have HFV := Lib.hid hfv
          have HCELL := Lib.hid hcell
          have hpI : (p : Int) < (K : Int) := by omega
          have hqI : (q : Int) < (K : Int) := by omega
          clear hpair hfst hun hr hdl hCp hCq hVp hVq hfv hcell hcc hHF np nq'
          by_cases hv : vp = vq
          · subst hv
            have t1 : (vp != vp) = false := by simp
            by_cases h0 : r < 0
            · have hx : ¬ (vp = vp ∧ ∃ n, Diff cp cq n) := fun ⟨_, n, hn⟩ => by
                rcases HR.out with ⟨m, h1, _⟩ | ⟨_, h2⟩
                · omega
                · exact h2 n hn
              have HN2 := Lib.hid (HPAIR.out hx)
              clear hx
              go_wp2_with fail
              go_quiet ((go_at_call 34; exact Calls.quiet_of_same ((HUN.out _).mono fun e w' h => ⟨h.1, h.2.symm⟩)))
              have hb2 := below_drewN hb.out nq
              change (wr.drewN nq).cell? _ = _ at c0 c1 c2 c3
              generalize wr.drewN nq = w2 at c0 c1 c2 c3 hb2 ⊢
              go_wp2_with fail
              go_quiet (fail)
              have hb3 := below_drewN hb2 nq
              change (w2.drewN nq).cell? _ = _ at c0 c1 c2 c3
              generalize w2.drewN nq = w3 at c0 c1 c2 c3 hb3 ⊢
              clear hb2
              go_wp2_with fail
              exact ⟨⟨q + 1, by omega, by omega, by go_num, HN2, Lib.hid hb3⟩, by simp [intOf]; omega⟩
            · obtain ⟨n, hrn, hd⟩ : ∃ n : Nat, r = n ∧ Diff cp cq n := by
                rcases HR.out with h | ⟨h1, _⟩
                · exact h
                · omega
              subst hrn
              obtain ⟨hb0, hcq⟩ := HDL.out n hd
              have hF1 := HFST.out n rfl hd
              have hn11 := hd.1
              obtain ⟨k, hk⟩ : ∃ k : Nat, vp = k := by
                obtain ⟨k, h1, _⟩ := hF1.2.2.1
                exact ⟨k, by rw [← h1, HVP.out]⟩
              subst hk
              have hkb : k.testBit n = true := by
                obtain ⟨k', h1, h2, _⟩ := hF1.2.2.1
                rw [HVP.out] at h1
                have : k' = k := by omega
                subst this; exact h2
              have hk11 : k < 2048 := by
                rcases HFV.out with h | ⟨k', h1, h2⟩
                · omega
                · omega
              have hPk := pow_le_of_bit hkb
              have hpw := power_any n hn11
              have hbt := bit_any (cp : Int) n hn11
              have hb00 : bitN (cp : Int) n = 0 := by rw [bitN_small cp n lp, hb0]; rfl
              rw [hb00] at hbt
              have hg1 : nxt M cp n cp = (k : Int) - ((2 ^ n : Nat) : Int) := by unfold nxt; rw [if_pos rfl, HVP.out]
              have hg2 : ∀ x, x ≠ cp → x ≠ cq → nxt M cp n x = M x := fun x h1 h2 => by unfold nxt; rw [if_neg h1, if_neg (by rw [← hcq]; exact h2)]
              have hend := restL_end hF1
              rw [← hcq, HK.out] at hend
              have hF1' := Lib.hid hF1
              clear hF1 hb0 hcq hb00 hkb hd HDL HFST HPAIR HR
              generalize hg : nxt M cp n = g at hg1 hg2 hend
              generalize 2 ^ n = P at hPk hpw hg1
              have HG1 := Lib.hid hg1
              have HG2 := Lib.hid hg2
              have HEND := Lib.hid hend
              have HG := Lib.hid hg
              have HPW := Lib.hid hpw
              have HBT := Lib.hid hbt
              have hs1 : IntKind.i64.wrap ((k : Int) - (P : Int)) = (k : Int) - (P : Int) := IntWalk.i64_in _ (by omega)
              have hs2 : IntKind.i64.wrap (cp : Int) = (cp : Int) := IntWalk.i64_in _ (by omega)
              have hs3 : IntKind.i64.wrap ((cp : Int) - 0) = (cp : Int) := IntWalk.i64_in _ (by omega)
              have hs4 : IntKind.i64.wrap ((P : Int) * 0) = 0 := by rw [Int.mul_zero]; rfl
              have hs5 : IntKind.i64.wrap 0 = 0 := rfl
              clear hg1 hg2 hend hg hpw hbt
              go_wp2_with fail
              go_quiet ((go_at_call 34; exact Calls.quiet_of_same ((HUN.out _).mono fun e w' h => ⟨h.1, h.2.symm⟩)))
              have hb2 := below_drewN hb.out nq
              change (wr.drewN nq).cell? _ = _ at c0 c1 c2 c3
              generalize wr.drewN nq = w2 at c0 c1 c2 c3 hb2 ⊢
              go_wp2_with fail
              go_quiet (fail)
              have hb3 := below_drewN hb2 nq
              change (w2.drewN nq).cell? _ = _ at c0 c1 c2 c3
              generalize w2.drewN nq = w3 at c0 c1 c2 c3 hb3 ⊢
              clear hb2
              go_wp2_with fail
              have hfb : (w3.alloc (.cells #[.int .i64 (cp : Int), .int .i64 (k : Int)] 41)).heap[w3.heap.size]? = some (.cells #[.int .i64 (cp : Int), .int .i64 (k : Int)] 41 (0, 0)) := heap_alloc_new w3 _
              have hba := hb3.alloc hb3.size (.cells #[.int .i64 (cp : Int), .int .i64 (k : Int)] 41)
              have hF3 : w.heap.size ≤ w3.heap.size := hb3.size
              generalize w3.heap.size = F at hfb hF3 ⊢
              generalize w3.alloc (.cells #[.int .i64 (cp : Int), .int .i64 (k : Int)] 41) = w4 at hfb hba ⊢
              clear hb3 c0 c1 c2 c3
              go_cut [7] (fun s7 wx => s7 = .pointer (some ⟨F, 0, none⟩) ∧ wx.heap[F]? = some (.cells #[.int .i64 (cp : Int), .int .i64 ((k : Int) - (P : Int))] 41 (0, 0)) ∧ Below w.heap.size w wx)
              case first =>
                have d0 : w4.cell? ⟨F, 0, none⟩ = some (.int .i64 (cp : Int)) := by rw [cell_of_row _ _ _ _ _ _ hfb]; rfl
                have d1 : w4.cell? ⟨F, 1, none⟩ = some (.int .i64 (k : Int)) := by rw [cell_of_row _ _ _ _ _ _ hfb]; rfl
                have f1 : w4.frozen? ⟨F, 1, none⟩ = false := frozen_of_row _ _ _ _ _ hfb
                go_region_with (go_at_call 35; refine (HPW.out _).mono ?_; rintro e w' ⟨rfl, rfl⟩)
                all_goals (go_wp2_with fail; go_meet; first | exact ⟨rfl, (fil_set hfb rfl).2, below_setd hba hF3 _⟩ | exact ⟨rfl, (fil_set hfb rfl).2, below_set hba hF3 _⟩)
              case rest =>
                clear hfb hba
                obtain ⟨rfl, hfb, hba⟩ := hcut
                have d0 := (cell_of_row _ F 0 _ _ _ hfb)
                have d1 := (cell_of_row _ F 1 _ _ _ hfb)
                simp only [List.getElem?_toArray, List.getElem?_cons_zero, List.getElem?_cons_succ] at d0 d1
                have f0 := frozen_of_row _ F 0 _ _ hfb
                go_wp2_with fail
                go_cut [7] (fun s7 wx => s7 = .pointer (some ⟨F, 0, none⟩) ∧ wx.heap[F]? = some (.cells #[.int .i64 (cp : Int), .int .i64 ((k : Int) - (P : Int))] 41 (0, 0)) ∧ Below w.heap.size w wx)
                case first =>
                  go_region_with (first
                    | (go_at_call 35; refine (HPW.out _).mono ?_; rintro e w' ⟨rfl, rfl⟩)
                    | (go_at_call 31; refine (HBT.out _).mono ?_; rintro e w' ⟨rfl, rfl⟩))
                  all_goals (go_wp2_with fail; go_meet; first | exact ⟨rfl, (fil_set hfb rfl).1, below_setd hba hF3 _⟩ | exact ⟨rfl, (fil_set hfb rfl).1, below_set hba hF3 _⟩)
                case rest =>
                  clear d0 d1 f0 hfb hba
                  obtain ⟨rfl, hfb, hba⟩ := hcut
                  have hFs : F < wc.heap.size := (Array.getElem?_eq_some_iff.1 hfb).1
                  have hcw : w.heap.size ≤ wc.heap.size := hba.size
                  have hown0 : (wc.alloc (.cells #[] 41)).ownsRow wc.heap.size 41 2 (.slice (some ⟨wc.heap.size, 0, none⟩) 0 0) 0 ((restL (codes M 2048) cq g 0).flatMap two) := ⟨rfl, .inr ⟨_, 0, #[], rfl, Nat.le_refl _, heap_alloc_new wc _, Nat.le_refl _, by simp [maxLen], by simp, rfl⟩⟩
                  have hb0 : Below wc.heap.size wc (wc.alloc (.cells #[] 41)) := (Below.refl _ _).alloc (Nat.le_refl _) _
                  have HFB := Lib.hid hfb
                  have HBA := Lib.hid hba
                  have HO := Lib.hid hown0
                  have HB0 := Lib.hid hb0
                  clear hfb hba hown0 hb0 HCELL HPW HBT HUN hs1 hs2 hs3 hs4 hs5 h0
                  go_wp2_with fail
                  go_loopw [8, 9] (fun v i wr => ∃ j : Nat, j ≤ K ∧ i = .int .i64 j ∧ wr.ownsRow wc.heap.size 41 2 v (restL (codes M 2048) cq g j).length ((restL (codes M 2048) cq g j).flatMap two) ∧ Below wc.heap.size wc wr) (fun _ i _ => K - (intOf i).toNat)
                  case atStart => exact ⟨0, by omega, rfl, HO.out, HB0.out⟩
                  case round =>
                    obtain ⟨j, hj, rfl, hown, hbj⟩ := hrel
                    have hlen := restL_len (codes M 2048) cq g j
                    by_cases hlj : j < K
                    · by_cases e1 : j = p
                      · obtain ⟨s1, s2⟩ := restL_in (b := cq) (by rw [HK.out]; exact hlj) (show (codes M 2048).getD j 0 = cp by rw [e1]; exact HCP.out) (by omega) HG1.out
                        have S1 := Lib.hid s1
                        have S2 := Lib.hid s2
                        clear s1 s2
                        subst e1
                        have d0 : wr.cell? ⟨F, 0, none⟩ = some (.int .i64 (cp : Int)) := by rw [hbj.cell (p := ⟨F, 0, none⟩) hFs, cell_of_row _ _ _ _ _ _ HFB.out]; rfl
                        have d1 : wr.cell? ⟨F, 1, none⟩ = some (.int .i64 ((k : Int) - (P : Int))) := by rw [hbj.cell (p := ⟨F, 1, none⟩) hFs, cell_of_row _ _ _ _ _ _ HFB.out]; rfl
                        go_wp2_with (at_builtin; refine wpList_two rfl (.tmp 81) (.tmp 83) rfl Try.underlying23 info_ref rfl hown rfl (by omega) hbj.size ?_; intro v' w' hown' hbel')
                        exact ⟨⟨j + 1, by omega, by go_num, by rw [S1.out, S2.out]; exact hown', hbj.trans hbel'⟩, by simp [intOf]; omega⟩
                      · have t2 : ((j : Int) == (p : Int)) = false := by simp; omega
                        by_cases e2 : j = q
                        · have s1 := restL_out (b := cq) (g := g) (by rw [HK.out]; exact hlj) (show (codes M 2048).getD j 0 = cq by rw [e2]; exact HCQ.out)
                          have S1 := Lib.hid s1
                          clear s1 e1
                          subst e2
                          have t3 : ((j : Int) != (j : Int)) = false := by simp
                          go_wp2_with fail
                          exact ⟨⟨j + 1, by omega, by go_num, by rw [S1.out]; exact hown, hbj⟩, by simp [intOf]; omega⟩
                        · have t3 : ((j : Int) != (q : Int)) = true := by simp; omega
                          obtain ⟨lj, nj⟩ := HAT.out j hlj
                          have n1 : (codes M 2048).getD j 0 ≠ cp := by
                            rw [← HCP.out]
                            rcases Nat.lt_or_gt_of_ne e1 with h | h
                            · have := HLT.out j p h hpK; omega
                            · have := HLT.out p j h hlj; omega
                          have n2 : (codes M 2048).getD j 0 ≠ cq := by
                            rw [← HCQ.out]
                            rcases Nat.lt_or_gt_of_ne e2 with h | h
                            · have := HLT.out j q h hlq; omega
                            · have := HLT.out q j h hlj; omega
                          obtain ⟨s1, s2⟩ := restL_in (b := cq) (by rw [HK.out]; exact hlj) rfl n2 (HG2.out _ n1 n2)
                          have hbw : Below w.heap.size w wr := HBA.out.trans (hbj.mono hcw)
                          obtain ⟨b', off', e', hbb', hcc⟩ := (HF.out.below hbw).cells (by omega)
                          cases e'
                          obtain ⟨c0, c1⟩ := hcc j hlj
                          simp only [HFA.out j hlj] at c0 c1
                          generalize (codes M 2048).getD j 0 = cj at *
                          generalize M cj = vj at *
                          have S1 := Lib.hid s1
                          have S2 := Lib.hid s2
                          have hjI : (j : Int) < (K : Int) := by omega
                          clear s1 s2 hcc hbw e1 e2 nj n1 n2 lj
                          go_wp2_with (at_builtin; refine wpList_two rfl (.tmp 88) (.tmp 93) rfl Try.underlying23 info_ref rfl hown rfl (by omega) hbj.size ?_; intro v' w' hown' hbel')
                          exact ⟨⟨j + 1, by omega, by go_num, by rw [S1.out, S2.out]; exact hown', hbj.trans hbel'⟩, by simp [intOf]; omega⟩
                    · obtain rfl : j = K := by omega
                      obtain ⟨A', c', rfl, hl', hf'⟩ := Fils.of_own hown
                      have HF' := Lib.hid hf'
                      have hbw : Below w.heap.size w wr := HBA.out.trans (hbj.mono hcw)
                      have HBW := Lib.hid hbw
                      clear hf' hl' hown hbw
                      go_wp2_with fail
                      refine bodyPost_ret (results_tmp2 rfl _ _ _) rfl ⟨.inl ⟨cp, n, A', c', hF1'.out, ?_, ?_⟩, HBW.out⟩
                      · rw [HG.out, ← HEND.out]; rfl
                      · rw [HG.out, ← HEND.out]; exact HF'.out
          · have t1 : (vp != vq) = true := by simp [hv]
            have HN2 := Lib.hid (HPAIR.out fun hx => hv hx.1)
            clear hv
            go_wp2_with fail
            go_quiet ((go_at_call 34; exact Calls.quiet_of_same ((HUN.out _).mono fun e w' h => ⟨h.1, h.2.symm⟩)))
            have hb2 := below_drewN hb.out nq
            change (wr.drewN nq).cell? _ = _ at c0 c1 c2 c3
            generalize wr.drewN nq = w2 at c0 c1 c2 c3 hb2 ⊢
            go_wp2_with fail
            go_quiet (fail)
            have hb3 := below_drewN hb2 nq
            change (w2.drewN nq).cell? _ = _ at c0 c1 c2 c3
            generalize w2.drewN nq = w3 at c0 c1 c2 c3 hb3 ⊢
            clear hb2
            go_wp2_with fail
            exact ⟨⟨q + 1, by omega, by omega, by go_num, HN2, Lib.hid hb3⟩, by simp [intOf]; omega⟩
        · obtain rfl : q = K := by omega
          have hn2 : Hid (∀ s t, s < p + 1 → s < t → t < q → ¬ PairAt M s t) := fun s t h1 h2 h3 => by
            by_cases e : s = p
            · subst e; exact hno2.out t h2 h3
            · exact hno.out s t (by omega) h2 h3
          go_wp2_with fail
          exact ⟨⟨p + 1, by omega, by go_num, hn2, hb⟩, by simp [intOf]; omega⟩
    · obtain rfl : p = K := by omega
      have hN : NoPair M := HNONE.out fun s t h1 h2 => hno.out s t (by have := HK.out; omega) h1 (by have := HK.out; omega)
      have HN := Lib.hid hN
      clear hN
      go_wp2_with fail
      refine bodyPost_ret (results_tmp2 rfl _ _ _) rfl ⟨.inr ⟨HN.out, ?_⟩, hb.out⟩
      rw [HK.out]; rfl
end Go.Proofs.Ytjofgomnnpeepaa
