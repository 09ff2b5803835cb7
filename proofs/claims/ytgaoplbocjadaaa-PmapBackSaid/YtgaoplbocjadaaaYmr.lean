/- Mappings: what was packed is unpacked, in plain terms. -/
import Derived.Test.YtgaoplbocjadaaaYmo
import Derived.Test.YtgaoplbocjadaaaYmq
namespace Go.Proofs.Ytgaoplbocjadaaa
open Go.RowKit
set_option linter.unusedSimpArgs false
set_option linter.unusedVariables false
theorem pkF_split (T : List (Int × Ent)) (fs : Nat → SlV) : ∀ (i m s : Nat), pkF T fs (i + m) s = pkF T fs i s ++ pkF T fs m (s + i)
  | 0, m, s => by simp [pkF]
  | i + 1, m, s => by
    rw [show i + 1 + m = (i + m) + 1 by omega]
    show (entS T (fs s)).b ++ pkF T fs (i + m) (s + 1) = ((entS T (fs s)).b ++ pkF T fs i (s + 1)) ++ pkF T fs m (s + (i + 1))
    rw [pkF_split T fs i m (s + 1), List.append_assoc, show s + 1 + i = s + (i + 1) by omega]
theorem prt_pk {T : List (Int × Ent)} (hG : Good T) {fs : Nat → SlV} {n i : Nat} (hin : ∀ j, j < n → mapB T (fs j) = true) (hi : i < n) : prt (pkF T fs n 0) (sumB fs i 0) (fs i) = (entS T (fs i)).b := by
  have e : pkF T fs n 0 = pkF T fs i 0 ++ ((entS T (fs i)).b ++ pkF T fs (n - (i + 1)) (i + 1)) := by
    rw [show n = i + ((n - (i + 1)) + 1) by omega, pkF_split, Nat.zero_add, show i + (n - (i + 1) + 1) - (i + 1) = n - (i + 1) by omega]
    rfl
  have hl := mapB_len hG (hin i hi)
  have hb : bys (fs i) = (entS T (fs i)).b.length := by unfold bys; omega
  unfold prt
  rw [e, sumB_pk hG fs i 0 (fun j _ hj => hin j (by omega)), List.drop_left, hb, List.take_left]
section
variable {D X : List (Int × Ent)} {fs : Nat → SlV} {n : Nat}
theorem back_fits (hD : Good D) (hS : SameS X D) (hin : ∀ j, j < n → mapB D (fs j) = true) : ∀ (m i : Nat), i + m = n → fitF X fs (pkF D fs n 0) m i (sumB fs i 0) = true
  | 0, i, _ => rfl
  | m + 1, i, h => by
    obtain ⟨h1, h2, h3, h4, h5⟩ := hS (fs i).q
    have hm := (mapB_iff.1 (hin i (by omega))).1
    have hk : fitsA (entS D (fs i)).k (entS D (fs i)).a (entS D (fs i)).lo (entS D (fs i)).hi (entS D (fs i)).b = 0 := (th_good hD hm).2.1
    unfold fitF
    rw [prt_pk hD hin (by omega)]
    unfold entS at hk ⊢
    rw [h2, h3, h4, h5, if_pos hk, show sumB fs i 0 + bys (fs i) = sumB fs (i + 1) 0 by rw [sumB_snoc, Nat.zero_add]]
    exact back_fits hD hS hin m (i + 1) (by omega)
def mixE (D X : List (Int × Ent)) (fs : Nat → SlV) (i : Nat) (q : Int) : List Int := if ∃ j, j < i ∧ (fs j).q = q then (thI e0 q D).b else (thI e0 q X).b
structure Mix (D X : List (Int × Ent)) (fs : Nat → SlV) (i : Nat) (U : List (Int × Ent)) : Prop where
  good : Good U
  same : SameS U X
  held : ∀ q, (thI e0 q U).b = mixE D X fs i q
theorem mix_start (hX : Good X) : Mix D X fs 0 X := ⟨hX, SameS.refl X, fun q => by unfold mixE; rw [if_neg (fun ⟨j, h, _⟩ => absurd h (by omega))]⟩
theorem mix_step (hD : Good D) (hS : SameS X D) {i : Nat} {U : List (Int × Ent)} (hm : mapB D (fs i) = true) (h : Mix D X fs i U) :
    Mix D X fs (i + 1) (newT (pE (fs i).i (fs i).j (entS D (fs i)).b U) (fs i).i (fs i).j (entS D (fs i)).b U) := by
  have hg := th_good hD (mapB_iff.1 hm).1
  refine ⟨put_good2 h.good _ _ hg.2.2.1, (SameS.put h.good.rise _ _ _).trans h.same, fun q => ?_⟩
  have hsU := h.same.trans hS
  obtain ⟨h1, h2, h3, h4, h5⟩ := hsU (fs i).q
  have hq : (fs i).q = numI (fs i).i (fs i).j := rfl
  have hp : pE (fs i).i (fs i).j (entS D (fs i)).b U = 0 := by
    obtain ⟨m1, m2, m3, m4⟩ := mapB_iff.1 hm
    have hf : fitsA (entS D (fs i)).k (entS D (fs i)).a (entS D (fs i)).lo (entS D (fs i)).hi (entS D (fs i)).b = 0 := hg.2.1
    have ho : ownE (thI e0 (numI (fs i).i (fs i).j) U) (hasI (numI (fs i).i (fs i).j) U) = 0 := by
      unfold ownE
      rw [← hq, h1, m1, h3, if_neg (by simp), if_neg (show ¬ (thI e0 (fs i).q D).a = 4 from m4)]
    have hf2 : fitsA (thI e0 (numI (fs i).i (fs i).j) U).k (thI e0 (numI (fs i).i (fs i).j) U).a (thI e0 (numI (fs i).i (fs i).j) U).lo (thI e0 (numI (fs i).i (fs i).j) U).hi (entS D (fs i)).b = 0 := by
      rw [← hq, h2, h3, h4, h5]
      exact hf
    unfold pE
    rw [if_neg (fun hh => hh ho), if_neg (fun hh => hh hf2)]
  unfold newT
  rw [hp, if_pos rfl]
  have hold := h.held q
  by_cases e : q = (fs i).q
  · have hmx : mixE D X fs (i + 1) q = (thI e0 q D).b := if_pos ⟨i, by omega, e.symm⟩
    rw [hmx]
    unfold givT
    split
    · rename_i hx
      rw [← hq, ← e] at hx
      rw [← hx, e]
      rfl
    · rw [← hq, e]
      rw [(thI_new h.good.rise).1]
      rfl
  · have hmx : mixE D X fs (i + 1) q = mixE D X fs i q := by
      unfold mixE
      by_cases hj : ∃ j, j < i ∧ (fs j).q = q
      · rw [if_pos hj, if_pos]
        obtain ⟨j, h1, h2⟩ := hj
        exact ⟨j, by omega, h2⟩
      · rw [if_neg hj, if_neg]
        rintro ⟨j, g1, g2⟩
        by_cases hji : j = i
        · subst hji; exact e g2.symm
        · exact hj ⟨j, by omega, g2⟩
    rw [hmx, ← hold]
    unfold givT
    split
    · rfl
    · rw [(thI_old h.good.rise (by rw [← hq]; exact e)).1]
theorem mix_all (hD : Good D) (hS : SameS X D) (hin : ∀ j, j < n → mapB D (fs j) = true) : ∀ (m i : Nat) (U : List (Int × Ent)), i + m = n → Mix D X fs i U → Mix D X fs n (upT fs (pkF D fs n 0) m i (sumB fs i 0) U)
  | 0, i, U, h, hu => by
    obtain rfl : i = n := by omega
    exact hu
  | m + 1, i, U, h, hu => by
    unfold upT
    rw [prt_pk hD hin (by omega), show sumB fs i 0 + bys (fs i) = sumB fs (i + 1) 0 by rw [sumB_snoc, Nat.zero_add]]
    exact mix_all hD hS hin m (i + 1) _ (by omega) (mix_step hD hS (hin i (by omega)) hu)
theorem back_un (hD : Good D) (hX : Good X) (hS : SameS X D) (hz : chkE (mapB D) fs n = 0) : unE X fs n (pkF D fs n 0) = 0 ∧ Mix D X fs n (unT X fs n (pkF D fs n 0)) := by
  have hin : ∀ j, j < n → mapB D (fs j) = true := fun j hj => chkG_in D fs n 0 0 (chkE_zero hz).2 j (by omega) (by omega)
  have hzx : chkE (mapB X) fs n = 0 := by rw [hS.mapf]; exact hz
  have h1 := (chkE_sz hD hz).1
  have hf := back_fits hD hS hin n 0 (by omega)
  have hu : unE X fs n (pkF D fs n 0) = 0 := by
    unfold unE
    rw [if_neg (fun h => h hzx), if_neg (fun h => h h1.symm)]
    exact if_pos hf
  refine ⟨hu, ?_⟩
  unfold unT
  rw [if_pos hu]
  exact mix_all hD hS hin n 0 X (by omega) (mix_start hX)
end
end Go.Proofs.Ytgaoplbocjadaaa
namespace Go.Proofs.Ytgaoplbocjadaaa
open Go.RowKit
set_option linter.unusedSimpArgs false
set_option linter.unusedVariables false
theorem mp_dec {fs : Nat → SlV} {q : Int} {j : Nat} {b : Bool} (hb : b = decide (∃ k, k < j ∧ (fs k).q = q)) {c : Bool} (hc : c = (b || decide ((fs j).q = q))) : c = decide (∃ k, k < j + 1 ∧ (fs k).q = q) := by
  subst hb hc
  by_cases h : (fs j).q = q
  · have : ∃ k, k < j + 1 ∧ (fs k).q = q := ⟨j, by omega, h⟩
    simp [h, this]
  · by_cases h2 : ∃ k, k < j ∧ (fs k).q = q
    · have : ∃ k, k < j + 1 ∧ (fs k).q = q := by obtain ⟨k, h3, h4⟩ := h2; exact ⟨k, by omega, h4⟩
      simp [h2, this]
    · have : ¬ ∃ k, k < j + 1 ∧ (fs k).q = q := by
        rintro ⟨k, h3, h4⟩
        by_cases hk : k = j
        · subst hk; exact h h4
        · exact h2 ⟨k, by omega, h4⟩
      simp [h, h2, this]
set_option maxRecDepth 100000 in
set_option maxHeartbeats 8000000 in
theorem back_walk25 (w : World) (A1 : Option Addr) (n1 c1 : Nat) (fs1 : Nat → BsV) (A2 : Option Addr) (n2 c2 : Nat) (fs2 : Nat → BsV) (A3 : Option Addr) (n3 c3 : Nat) (fs : Nat → SlV) (h1 : Els BsC 1 w w.heap.size A1 n1 c1 fs1) (h2 : Els BsC 1 w w.heap.size A2 n2 c2 fs2) (h3 : Els SlC 3 w w.heap.size A3 n3 c3 fs) :
    Calls Try.prog 7 #[.slice A1 n1 c1, .slice A2 n2 c2, .slice A3 n3 c3] w fun e w' => e = .returned (.bool true) ∧ Below w.heap.size w w' := by
  have hcap := h3.cap
  have hmax := h3.max
  simp only [maxLen] at hmax
  obtain ⟨n, hn⟩ : ∃ n, n = min n3 12 := ⟨_, rfl⟩
  have hnI : min (n3 : Int) 12 = (n : Int) := by omega
  have hn2 : n ≤ n3 := by omega
  have hnc : n ≤ c3 := by omega
  have HL := Lib.hid (fun x (hx : Below w.heap.size w x) => (h3.take hn2).lowS hx)
  have HLB := Lib.hid (fun x B (hx : Below w.heap.size w x) (hB : w.heap.size ≤ B) => (h3.take hn2).toB hx hB)
  have HC := Lib.hid (fun (x : World) (hx : Below w.heap.size w x) (h0 : 0 < n) => show ∃ b off, A3 = some ⟨b, off, none⟩ ∧ b < w.heap.size ∧ ∀ i, i < n → SlC x b (off + i * 3) (fs i) from by
    obtain ⟨b, off, e, hb, h⟩ := (h3.take hn2).cells h0
    exact ⟨b, off, e, hb, fun i hi => (h i hi).below hb hx⟩)
  have HF1 := Lib.hid (filled_any w A1 n1 c1 fs1 h1)
  have HF2 := Lib.hid (fun x (hx : Below w.heap.size w x) => filled_any x A2 n2 c2 fs2 (h2.lowB hx))
  clear h1 h2 h3 hn
  go_enter Try.func7, Try.ntmps7
  go_wp2_with fail
  have hf := HF1.out
  unfold FillP at hf
  refine hf.mono ?_
  rintro e w1 ⟨B1, g1, T1, R1, ch1, chr1, a1, cR1, rfl, hBB1, hbo1, -, -, hs1, hb1⟩
  have hba : Below w1.heap.size w1 (w1.alloc (.cells #[.slice a1 R1.length cR1, .int .i64 chr1] 33)) := (Below.refl _ _).alloc (Nat.le_refl _) _
  have HD1 := Lib.hid ((hbo1.below hba).dict)
  have HG1 := Lib.hid hbo1.tie.good
  have HB2 := Lib.hid (kF hba hb1)
  have HS1 := Lib.hid hs1
  clear hf HF1 hbo1 hb1 hba hs1 hBB1
  go_upto_region 3 with fail
  generalize w1.alloc (.cells #[.slice a1 R1.length cR1, .int .i64 chr1] 33) = w2 at *
  generalize w1.heap.size = gr1 at *
  go_wp2_with fail
  have hf := HF2.out w2 HB2.out
  unfold FillP at hf
  refine hf.mono ?_
  rintro e w3 ⟨B, g, T, R, ch, chr, a, cR, rfl, hBB, hbo, hch, -, hs2, hb3⟩
  have hba : Below w3.heap.size w3 (w3.alloc (.cells #[.slice a R.length cR, .int .i64 chr] 33)) := (Below.refl _ _).alloc (Nat.le_refl _) _
  have HBo := Lib.hid (hbo.below hba)
  have HW4 := Lib.hid (kF hba hb3)
  have HR4 : Hid (RBox (w3.alloc (.cells #[.slice a R.length cR, .int .i64 chr] 33)) w3.heap.size a R.length cR chr) := Lib.hid (heap_alloc_new w3 _)
  have HBB : Hid (w2.heap.size ≤ B) := Lib.hid hBB
  have HCH := Lib.hid hch
  have HSS : Hid (SameS T T1) := Lib.hid (hs2.trans (fun q => ⟨(HS1.out q).1.symm, (HS1.out q).2.1.symm, (HS1.out q).2.2.1.symm, (HS1.out q).2.2.2.1.symm, (HS1.out q).2.2.2.2.symm⟩))
  clear hf HF2 hbo hb3 hba hs2 hBB hch HS1
  go_upto_region 4 with fail
  generalize w3.alloc (.cells #[.slice a R.length cR, .int .i64 chr] 33) = w4 at *
  generalize w3.heap.size = gr at *
  have HB4 := Lib.hid (show Below w.heap.size w w4 from kF HW4.out HB2.out)
  have hpk := pack_any (T := T1) (HD1.out.below HW4.out) HG1.out (HL.out w4 HB4.out)
  unfold PackP at hpk
  have HPK := Lib.hid hpk
  clear hpk
  go_wp2_with fail
  refine HPK.out.mono ?_
  rintro e w5 ⟨A5, n5, c5, rfl, hy5, hb5⟩
  have HY5 := Lib.hid hy5
  have HW5 := Lib.hid (show Below w2.heap.size w2 w5 from kF hb5 HW4.out)
  have HB5 := Lib.hid (kF hb5 HB4.out)
  have HD5 := Lib.hid (HBo.out.dict.below hb5)
  have HO5 := Lib.hid (own_below HBo.out.ref hb5)
  have HT := Lib.hid HBo.out.tie
  have HR5 := Lib.hid (HR4.out.below hb5)
  have HWB : Hid (w.heap.size ≤ B) := Lib.hid (Nat.le_trans HB2.out.size HBB.out)
  clear hy5 hb5 HPK HBo HR4 HW4 HB4
  by_cases hz : chkE (mapB T1) fs n = 0
  · have hpe : pkE T1 fs n = 0 := if_pos hz
    have hpl : pkL T1 fs n = pkF T1 fs n 0 := if_pos hz
    rw [hpl] at HY5
    obtain ⟨hun, hmix⟩ := back_un HG1.out HT.out.good HSS.out hz
    have HMX := Lib.hid hmix
    have hup := unpack_any HD5.out HT.out.good (by have := HCH.out; omega) HY5.out (HLB.out w5 B HB5.out HWB.out)
    unfold UnpP at hup
    rw [hun] at hup
    have HUP := Lib.hid hup
    clear hup hun hmix hpl hz
    generalize pkE T1 fs n = PE at *
    subst hpe
    go_wp2_with fail
    refine HUP.out.mono ?_
    rintro e w6 ⟨ch6, rfl, hd6, -, ho6⟩
    have HD6 := Lib.hid hd6
    have HR6 := Lib.hid (show RBox w6 gr a R.length cR chr from ho6.2 _ _ _ _ HR5.out not3_D)
    have HO6 := Lib.hid (ho6.own HO5.out not3_R)
    have HB6 := Lib.hid (HB5.out.trans (ho6.1.mono HWB.out))
    have HW6 := Lib.hid (show Below w2.heap.size w2 w6 from HW5.out.trans (ho6.1.mono HBB.out))
    have HD16 := Lib.hid (HD1.out.below HW6.out)
    clear hd6 ho6 HUP HR5 HD5 HO5 HB5 HY5 HW5 HW6 HD1
    generalize unT T fs n (pkF T1 fs n 0) = UT at *
    have HXR := Lib.hid (fun p (hp : p < R.length) => show ∃ y, R[p]? = some y from ⟨_, List.getElem?_eq_getElem hp⟩)
    have HCR := Lib.hid (fun x (hx : Below w6.heap.size w6 x) (p : Nat) (y : Int × Ent) (hy : R[p]? = some y) => rowsR_at (own_below HO6.out hx) hy)
    have HOK := Lib.hid (fun (p : Nat) (y : Int × Ent) (hy : R[p]? = some y) => show 256 ≤ y.1 ∧ y.1 ≤ 16777215 from (HT.out.ok y (List.mem_of_getElem? hy)).1)
    have HX1 := Lib.hid (fun (x : World) (hx : Below w6.heap.size w6 x) (p : Nat) (y : Int × Ent) (hy : R[p]? = some y) => at_rawl (x := y.1) (L := (thI e0 y.1 T1).b) (HD16.out.below hx) HG1.out (HOK.out p y hy) (by rw [← (HSS.out y.1).1]; exact (HT.out.at_ hy).1) rfl)
    have HX2 := Lib.hid (fun (x : World) (hx : Below w6.heap.size w6 x) (p : Nat) (y : Int × Ent) (hy : R[p]? = some y) => at_rawl (x := y.1) (L := mixE T1 T fs n y.1) (HD6.out.below hx) HMX.out.good (HOK.out p y hy) (by rw [(HMX.out.same y.1).1]; exact (HT.out.at_ hy).1) (HMX.out.held y.1))
    have HMV := Lib.hid (fun (p : Nat) (y : Int × Ent) (hy : R[p]? = some y) => show mixE T1 T fs n y.1 = if ∃ j, j < n ∧ (fs j).q = y.1 then (thI e0 y.1 T1).b else y.2.b from by unfold mixE; rw [(HT.out.at_ hy).2])
    have hRl : R.length ≤ 600 := by rw [← HT.out.len]; exact HT.out.good.few
    have HRB := Lib.hid (fun x (hx : Below w6.heap.size w6 x) => (HR6.out.below hx).cells)
    clear HT HO6 HR6 HD6 HD16 HSS HMX HG1
    generalize R.length = N at *
    go_wp2_with fail
    go_loopw [13] (fun t wr => ∃ i : Nat, i ≤ N ∧ t = .int .i64 i ∧ Hid (Below w6.heap.size w6 wr)) (fun t _ => N - (intOf t).toNat)
    case atStart => exact ⟨0, by omega, rfl, Lib.hid (Below.refl _ _)⟩
    case round =>
      obtain ⟨i, hi, rfl, HW⟩ := hrel
      obtain ⟨d0, d1⟩ := HRB.out wr HW.out
      by_cases hlt : i < N
      · have hiI : (i : Int) < (N : Int) := by omega
        obtain ⟨y, hy⟩ := HXR.out i hlt
        obtain ⟨gw, rfl, hg, hnc2, hm, -⟩ := HCR.out wr HW.out i y hy
        simp only [maxLen] at hm
        have HCX := Lib.hid (fun x (hx : Below w6.heap.size w6 x) => show (x.cell? ⟨gw, i * 7, none⟩ = some (.int .i64 (y.1 / 256)) ∧ x.cell? ⟨gw, i * 7 + 1, none⟩ = some (.int .i64 (y.1 % 256)) ∧ x.cell? ⟨gw, i * 7 + 6, none⟩ = some (.string (strOfNums y.2.b))) from by
          obtain ⟨g', e', _, _, _, hc7⟩ := HCR.out x hx i y hy
          cases e'
          exact ⟨hc7.1, hc7.2.1, hc7.2.2.2.2.2.2⟩)
        have HXA := Lib.hid (fun x hx => HX1.out x hx i y hy)
        have HXB := Lib.hid (fun x hx => HX2.out x hx i y hy)
        have HMI := Lib.hid (HMV.out i y hy)
        have HNI := Lib.hid (fun (j : Nat) => show ((y.1 / 256 = (fs j).i ∧ y.1 % 256 = (fs j).j) ↔ y.1 = (fs j).q) from num_is (HOK.out i y hy))
        clear hy hg
        obtain ⟨yq, ye⟩ := y
        dsimp only at HCX HXA HXB HMI HNI
        generalize yq / 256 = yi at *
        generalize yq % 256 = yj at *
        obtain ⟨k0, k1, k6⟩ := HCX.out wr HW.out
        have hba : Below wr.heap.size wr (wr.alloc (.cells #[.int .i64 yi, .int .i64 yj] 24)) := (Below.refl _ _).alloc (Nat.le_refl _) _
        have HWA := Lib.hid (kF hba HW.out)
        have HKA : Hid (Key2 (wr.alloc (.cells #[.int .i64 yi, .int .i64 yj] 24)) wr.heap.size yi yj) := Lib.hid (heap_alloc_new wr _)
        clear hba HW
        go_wp2_with fail
        clear d0 d1 k0 k1 k6
        generalize wr.alloc (.cells #[.int .i64 yi, .int .i64 yj] 24) = wa at *
        generalize wr.heap.size = gk at *
        go_loopw [15, 16] (fun t15 t16 wr => ∃ (j : Nat) (b : Bool), j ≤ n ∧ t15 = .bool b ∧ t16 = .int .i64 j ∧ Hid (b = decide (∃ k, k < j ∧ (fs k).q = yq)) ∧ Hid (Below wa.heap.size wa wr)) (fun _ t _ => n - (intOf t).toNat)
        case atStart => exact ⟨0, false, by omega, rfl, rfl, Lib.hid (by simp), Lib.hid (Below.refl _ _)⟩
        case round =>
          obtain ⟨j, b, hj, rfl, rfl, HBD, HWJ⟩ := hrel
          by_cases hlj : j < n
          · have hjI : (j : Int) < (n : Int) := by omega
            obtain ⟨bk, off, rfl, hbk, hcs⟩ := HC.out wr (kF (kF HWJ.out HWA.out) HB6.out) (by omega)
            obtain ⟨c0, c1', c2'⟩ := hcs j hlj
            obtain ⟨m0, m1⟩ := (HKA.out.below HWJ.out).cells
            have hni := HNI.out j
            have HDC := Lib.hid (fun (c : Bool) (hc : c = (b || decide ((fs j).q = yq))) => mp_dec HBD.out hc)
            clear hcs
            cases b with
            | true =>
              have HN2 := Lib.hid (HDC.out true (by simp))
              clear hni
              generalize fs j = s at *
              obtain ⟨si, sj, sn⟩ := s
              dsimp only at c0 c1' c2'
              go_wp2_with fail
              go_quiet (fail)
              go_wp2_with fail
              exact ⟨⟨j + 1, true, by omega, rfl, by go_num, HN2, Lib.hid (below_drewN HWJ.out nq)⟩, by simp [intOf]; omega⟩
            | false =>
              by_cases hk : yi = (fs j).i ∧ yj = (fs j).j
              · have HN2 := Lib.hid (HDC.out true (by rw [(hni.1 hk)]; simp))
                obtain ⟨e1, e2⟩ := hk
                clear hni
                rw [← e1] at c0
                rw [← e2] at c1'
                clear e1 e2
                go_wp2_with fail
                go_quiet (fail)
                go_wp2_with fail
                exact ⟨⟨j + 1, true, by omega, rfl, by go_num, HN2, Lib.hid (below_drewN HWJ.out nq)⟩, by simp [intOf]; omega⟩
              · have HN2 := Lib.hid (HDC.out false (by have : ¬ (fs j).q = yq := fun e => hk (hni.2 e.symm); simp [this]))
                have hk2 : ¬ ((fs j).i = yi) ∨ ((fs j).i = yi ∧ ¬ (fs j).j = yj) := by omega
                clear hni hk HDC
                generalize (fs j).i = si at *
                generalize (fs j).j = sj at *
                rcases hk2 with e1 | ⟨e1, e2⟩
                · go_wp2_with fail
                  go_quiet (fail)
                  go_wp2_with fail
                  exact ⟨⟨j + 1, false, by omega, rfl, by go_num, HN2, Lib.hid (below_drewN HWJ.out nq)⟩, by simp [intOf]; omega⟩
                · subst e1
                  go_wp2_with fail
                  go_quiet (fail)
                  go_wp2_with fail
                  exact ⟨⟨j + 1, false, by omega, rfl, by go_num, HN2, Lib.hid (below_drewN HWJ.out nq)⟩, by simp [intOf]; omega⟩
          · have HBN : Hid (b = decide (∃ k, k < n ∧ (fs k).q = yq)) := Lib.hid (by have := HBD.out; rwa [show j = n by omega] at this)
            have HWX := Lib.hid (kF HWJ.out HWA.out)
            obtain ⟨d0, d1⟩ := HRB.out wr HWX.out
            obtain ⟨k0, k1, k6⟩ := HCX.out wr HWX.out
            obtain ⟨m0, m1⟩ := (HKA.out.below HWJ.out).cells
            cases b with
            | true =>
              have HML : Hid (mixE T1 T fs n yq = (thI e0 yq T1).b) := Lib.hid (by rw [HMI.out]; exact if_pos (of_decide_eq_true HBN.out.symm))
              rw [HML.out] at HXB
              generalize (thI e0 yq T1).b = M at *
              go_wp2_with fail
              refine (HXA.out wr HWX.out).mono ?_
              rintro e x1 ⟨Aq, nq1, cq, rfl, hyq, hbq⟩
              have hcv := conv_any hyq
              have HWY := Lib.hid (kF hbq HWX.out)
              have HKY := Lib.hid ((HKA.out.below HWJ.out).below hbq)
              clear hyq hbq d0 d1 k0 k1 k6 m0 m1
              obtain ⟨m0, m1⟩ := HKY.out.cells
              go_wp2_with fail
              refine (HXB.out x1 HWY.out).mono ?_
              rintro e x2 ⟨Ar, nr, cr, rfl, hyr, hbr⟩
              have hcw := conv_any hyr
              have HWZ := Lib.hid (kF hbr HWY.out)
              have he : ((strOfNums M).toList == (strOfNums M).toList) = true := by simp
              clear hyr hbr hcv m0 m1
              go_wp2_with fail
              exact ⟨⟨i + 1, by omega, by go_num, HWZ⟩, by simp [intOf]; omega⟩
            | false =>
              have HML : Hid (mixE T1 T fs n yq = ye.b) := Lib.hid (by rw [HMI.out]; exact if_neg (of_decide_eq_false HBN.out.symm))
              rw [HML.out] at HXB
              generalize ye.b = M at *
              go_wp2_with fail
              refine (HXB.out wr HWX.out).mono ?_
              rintro e x2 ⟨Ar, nr, cr, rfl, hyr, hbr⟩
              have hcw := conv_any hyr
              have HWZ := Lib.hid (kF hbr HWX.out)
              have he : ((strOfNums M).toList == (strOfNums M).toList) = true := by simp
              clear hyr hbr m0 m1 d0 d1 k0 k1 k6
              go_wp2_with fail
              exact ⟨⟨i + 1, by omega, by go_num, HWZ⟩, by simp [intOf]; omega⟩
      · go_wp2_with fail
        refine (live25_any wr).mono ?_
        rintro e w8 ⟨rfl, hb8⟩
        have HE := Lib.hid (kF (kF hb8 HW.out) HB6.out)
        clear hb8
        go_wp2_with fail
        go_ret
        exact ⟨rfl, HE.out⟩
  · have hpe : pkE T1 fs n = 14 := if_neg hz
    have hun : ∀ l, unE T fs n l = 14 := fun l => by unfold unE; rw [if_pos (by rw [HSS.out.mapf]; exact hz)]
    generalize pkE T1 fs n = PE at *
    subst hpe
    generalize pkL T1 fs n = PL at *
    go_wp2_with fail
    refine (live25_any w5).mono ?_
    rintro e w6 ⟨rfl, hb6⟩
    have hup := unpack_any (HD5.out.below hb6) HT.out.good (by have := HCH.out; omega) (HY5.out.step hb6) (HLB.out w6 B (kF hb6 HB5.out) HWB.out)
    unfold UnpP at hup
    rw [hun] at hup
    have HUP := Lib.hid hup
    have HB6 := Lib.hid (kF hb6 HB5.out)
    clear hup hun hb6
    go_wp2_with fail
    refine HUP.out.mono ?_
    rintro e w7 ⟨ch6, rfl, -, -, ho6⟩
    have HB7 := Lib.hid (HB6.out.trans (ho6.1.mono HWB.out))
    clear ho6 HUP
    go_wp2_with fail
    go_ret
    exact ⟨rfl, HB7.out⟩
end Go.Proofs.Ytgaoplbocjadaaa
