/- Mappings: Unpack of the program. -/
import Derived.Test.YtgaoplbocjadaaaYml
namespace Go.Proofs.Ytgaoplbocjadaaa
open Go.RowKit
set_option linter.unusedSimpArgs false
set_option linter.unusedVariables false
theorem tie_self {T : List (Int × Ent)} (hG : Good T) : TieD T T :=
  ⟨hG, fun _ => Iff.rfl, rfl, fun p p' x y hx hy e => by
    rcases Nat.lt_trichotomy p p' with h | h | h
    · have := hG.rise p p' x y h hx hy; omega
    · exact h
    · have := hG.rise p' p y x h hy hx; omega⟩
theorem put_good2 {T : List (Int × Ent)} (hG : Good T) (i j : Int) {l : List Int} (hl : ∀ y ∈ l, 0 ≤ y ∧ y ≤ 255) : Good (newT (pE i j l T) i j l T) := put_good (tie_self hG) i j hl
theorem Els.more {D : Type} {C : World → Nat → Nat → D → Prop} {k : Nat} {w : World} {B B' : Nat} {A : Option Addr} {n c : Nat} {fs : Nat → D} (h : Els C k w B A n c fs) (hB : B ≤ B') : Els C k w B' A n c fs :=
  ⟨h.cap, h.max, fun h0 => by
    obtain ⟨b, off, e, hlt, hc⟩ := h.cells h0
    exact ⟨b, off, e, by omega, hc⟩⟩
theorem Els.toB {w w' : World} {B : Nat} {A : Option Addr} {n c : Nat} {fs : Nat → SlV} (h : Els SlC 3 w w.heap.size A n c fs) (hb : Below w.heap.size w w') (hB : w.heap.size ≤ B) : Els SlC 3 w' B A n c fs :=
  ⟨h.cap, h.max, fun h0 => by
    obtain ⟨b, off, e, hlt, hc⟩ := h.cells h0
    exact ⟨b, off, e, by omega, fun i hi => (hc i hi).below hlt hb⟩⟩
def UnpP (B g : Nat) (w : World) (T : List (Int × Ent)) (ch : Int) (fs : Nat → SlV) (n : Nat) (l : List Int) (e : Ending) (w' : World) : Prop := ∃ ch', e = .returned (.int .i64 (unE T fs n l)) ∧ DictAt B g (unT T fs n l) ch' w' ∧ (0 ≤ ch' ∧ ch' ≤ ch + 8) ∧ Oth B w w'
theorem UnpP.bad {B g : Nat} {w w' : World} {T : List (Int × Ent)} {ch : Int} {fs : Nat → SlV} {n : Nat} {l : List Int} {v : Int} (hv : unE T fs n l = v) (h0 : ¬ v = 0) (hc : 0 ≤ ch) (h : DictAt B g T ch w) (hb : Below w.heap.size w w') : UnpP B g w T ch fs n l (.returned (.int .i64 v)) w' :=
  ⟨ch, by rw [hv], by unfold unT; rw [hv, if_neg h0]; exact h.below hb, ⟨hc, by omega⟩, .of_below hb h.bs⟩
set_option maxRecDepth 100000 in
set_option maxHeartbeats 8000000 in
theorem unpack_any {B g : Nat} {T : List (Int × Ent)} {ch : Int} {w : World} {A A2 : Option Addr} {m c n c2 : Nat} {fs : Nat → SlV} {l : List Int} (h : DictAt B g T ch w) (hG : Good T) (hc : 0 ≤ ch ∧ ch ≤ 900000) (hB : Byt w w.heap.size A m c l) (hLB : Els SlC 3 w B A2 n c2 fs) :
    Calls Try.prog 30 #[.pointer (some ⟨g, 0, none⟩), .slice A m c, .slice A2 n c2] w (UnpP B g w T ch fs n l) := by
  have hL : Els SlC 3 w w.heap.size A2 n c2 fs := hLB.more h.bs
  have HCB := Lib.hid hLB.cells
  clear hLB
  have hcap := hL.cap
  have hmax := hL.max
  have hmb := byt_max hB
  simp only [maxLen] at hmax
  have hbad := fun (v : Int) (w' : World) (hv : unE T fs n l = v) (h0 : ¬ v = 0) (hb : Below w.heap.size w w') => UnpP.bad hv h0 hc.1 h hb
  have HBAD := Lib.hid hbad
  have HCK := Lib.hid (dict_check h hG hL)
  have HSZ := Lib.hid (fun x (hx : Below w.heap.size w x) => psize_any x A2 n c2 fs (hL.lowS hx))
  have HC := Lib.hid (fun (x : World) (hx : Below w.heap.size w x) (h0 : 0 < n) => show ∃ b off, A2 = some ⟨b, off, none⟩ ∧ b < w.heap.size ∧ ∀ i, i < n → SlC x b (off + i * 3) (fs i) from by
    obtain ⟨b, off, e, hb, h⟩ := hL.cells h0
    exact ⟨b, off, e, hb, fun i hi => (h i hi).below hb hx⟩)
  have HLN := Lib.hid hB.len
  by_cases hz : chkE (mapB T) fs n = 0
  · rw [hz] at HCK
    by_cases hs : (l.length : Int) = szE fs n
    · have h8 := (chkE_zero hz).1
      have hin : ∀ i, i < n → mapB T (fs i) = true := fun i hi => chkG_in T fs n 0 0 (chkE_zero hz).2 i (by omega) (by omega)
      have hlen : l.length = sumB fs n 0 := by
        have h1 := (chkE_sz hG hz).1
        have h2 := sumB_pk hG fs n 0 (fun j _ hj => hin j (by omega))
        omega
      have HPT := Lib.hid (fun x (hx : Below w.heap.size w x) => parts_any x A A2 m c n c2 l fs (hB.step hx) (hL.lowS hx) h8 (fun i hi => bys_in (hin i hi)) hlen)
      have HLE := Lib.hid (fun i (hi : i < n) => show sumB fs i 0 + bys (fs i) ≤ l.length from by
        have := sumB_le fs l hlen (show i + 1 ≤ n by omega)
        rw [sumB_snoc, Nat.zero_add] at this
        exact this)
      have HRG := Lib.hid (fun i => prt_rng (l := l) (off := sumB fs i 0) (s := fs i) hB.rng)
      have HSN := Lib.hid (fun i => (sumB_snoc fs i 0).trans (by rw [Nat.zero_add]))
      have hss : ((m : Int) != szE fs n) = false := by rw [← hs, hB.len]; simp
      have hUE : unE T fs n l = if fitF T fs l n 0 0 = true then 0 else 4 := by
        unfold unE
        rw [if_neg (by rw [hz]; simp), if_neg (by rw [← hs]; simp)]
      have HUE := Lib.hid hUE
      have HUT : Hid (fitF T fs l n 0 0 = true → unT T fs n l = upT fs l n 0 0 T ∧ unE T fs n l = 0) := Lib.hid (fun hf => by
        have e : unE T fs n l = 0 := by rw [hUE, if_pos hf]
        exact ⟨by unfold unT; rw [if_pos e], e⟩)
      have HD := Lib.hid h
      have HG := Lib.hid hG
      have HCH := Lib.hid hc
      have HBS := Lib.hid h.bs
      have HSP := Lib.hid (fun x (hx : Below w.heap.size w x) (i j : Int) => at_spec i j (h.below hx) hG)
      unfold UnpP
      clear h hG hc hB hL hz hs hin hlen hUE hbad
      generalize szE fs n = SE at *
      go_enter Try.func30, Try.ntmps30
      go_wp2_with fail
      refine HCK.out.mono ?_
      rintro e w1 ⟨rfl, hb1⟩
      have HB1 := Lib.hid hb1
      clear hb1 HCK
      go_wp2_with fail
      refine (HSZ.out w1 HB1.out).mono ?_
      rintro e w2 ⟨rfl, hb2⟩
      have HB2 := Lib.hid (kF hb2 HB1.out)
      clear hb2 HSZ HB1
      go_wp2_with fail
      have hpp := HPT.out w2 HB2.out
      unfold PartsP at hpp
      refine hpp.mono ?_
      rintro e w3 ⟨gp, vs, rfl, hp3, hv3, hb3, hg3⟩
      have HP3 := Lib.hid hp3
      have HV := Lib.hid hv3
      have HB3 := Lib.hid (kF hb3 HB2.out)
      clear hpp hp3 hv3 hb3 HPT HB2 hss
      go_wp2_with fail
      go_loopw [28] (fun t wr => ∃ (i : Nat), i ≤ n ∧ t = .int .i64 i ∧ Hid (fitF T fs l n 0 0 = fitF T fs l (n - i) i (sumB fs i 0)) ∧ Hid (Below w3.heap.size w3 wr)) (fun t _ => n - (intOf t).toNat)
      case atStart => exact ⟨0, by omega, rfl, Lib.hid rfl, Lib.hid (Below.refl _ _)⟩
      case round =>
        obtain ⟨i, hi, rfl, HF, HW⟩ := hrel
        have HWW := Lib.hid (kF HW.out HB3.out)
        by_cases hlt : i < n
        · have hiI : (i : Int) < (n : Int) := by omega
          obtain ⟨bk, off, rfl, hbk, hcs⟩ := HC.out wr HWW.out (by omega)
          obtain ⟨c0, c1, c2'⟩ := hcs i hlt
          have HFS : Hid (fitF T fs l n 0 0 = if fitsA (entS T (fs i)).k (entS T (fs i)).a (entS T (fs i)).lo (entS T (fs i)).hi (prt l (sumB fs i 0) (fs i)) = 0 then fitF T fs l (n - (i + 1)) (i + 1) (sumB fs (i + 1) 0) else false) := Lib.hid (by rw [HF.out, HSN.out i, show n - i = (n - (i + 1)) + 1 by omega]; rfl)
          have hvi := HV.out i hlt
          have HVI := Lib.hid hvi
          have HSX := Lib.hid (fun x hx => HSP.out x hx (fs i).i (fs i).j)
          have HEN : Hid (entS T (fs i) = thI e0 (numI (fs i).i (fs i).j) T) := Lib.hid rfl
          rw [HEN.out] at HFS
          rw [← hvi] at HFS
          clear hvi HEN HF
          generalize thI e0 (numI (fs i).i (fs i).j) T = E at *
          generalize hasI (numI (fs i).i (fs i).j) T = HH at *
          generalize fs i = s at *
          obtain ⟨si, sj, sn⟩ := s
          obtain ⟨ek, ea, el, eh, eb⟩ := E
          dsimp only at c0 c1 c2' HSX HFS
          have hba : Below wr.heap.size wr (wr.alloc (.cells #[.int .i64 si, .int .i64 sj, .int .i64 sn] 26)) := (Below.refl _ _).alloc (Nat.le_refl _) _
          have HBA := Lib.hid (kF hba HW.out)
          clear hba hcs
          go_wp2_with fail
          generalize wr.alloc (.cells #[.int .i64 si, .int .i64 sj, .int .i64 sn] 26) = wx at *
          refine (HSX.out wx (kF HBA.out HB3.out)).mono ?_
          rintro e w4 ⟨rfl, hb4⟩
          have hbb : Below w4.heap.size w4 (w4.alloc (.cells #[.int .i64 ek, .int .i64 ea, .int .i64 el, .int .i64 eh] 75)) := (Below.refl _ _).alloc (Nat.le_refl _) _
          have HB5 := Lib.hid (kF hbb (kF hb4 HBA.out))
          have HS5 : Hid (Spc (w4.alloc (.cells #[.int .i64 ek, .int .i64 ea, .int .i64 el, .int .i64 eh] 75)) w4.heap.size ek ea el eh) := Lib.hid (heap_alloc_new w4 _)
          clear hbb hb4 HSX HBA c0 c1 c2'
          go_upto_region 10 with fail
          generalize w4.alloc (.cells #[.int .i64 ek, .int .i64 ea, .int .i64 el, .int .i64 eh] 75) = w5 at *
          generalize w4.heap.size = g5 at *
          have HCL := Lib.hid (fun x (hx : Below w3.heap.size w3 x) => (HP3.out.below hx).cell hlt)
          have HBY := Lib.hid (fun x (hx : Below w3.heap.size w3 x) => ((HP3.out.below hx).byt i hlt).1)
          clear HVI
          generalize vs i = v at *
          obtain ⟨vA, vn, vc, vl⟩ := v
          dsimp only at HCL HBY HFS
          have HSC := Lib.hid (fun (x : World) (hx : Below w5.heap.size w5 x) => show (x.cell? ⟨g5, 0, none⟩ = some (.int .i64 ek) ∧ x.cell? ⟨g5, 1, none⟩ = some (.int .i64 ea) ∧ x.cell? ⟨g5, 2, none⟩ = some (.int .i64 el) ∧ x.cell? ⟨g5, 3, none⟩ = some (.int .i64 eh)) ∧ x.cell? ⟨gp, i, none⟩ = some (.slice vA vn vc) from ⟨(Spc.below HS5.out hx).cells, HCL.out x (kF hx HB5.out)⟩)
          refine wp_region_last (fun y => Below w5.heap.size w5 y) 6 (by kernel_rfl) (kD _) (fun hHeld => ?_)
          have HBv0 := Lib.hid (kD w5)
          generalize w5.drew = v0 at *
          refine wpAnyL_take (i := 0) (v := ?_) rfl (by kernel_rfl) (by kernel_rfl) (by kernel_rfl) (by kernel_rfl) (by kernel_rfl) (fun _ _ _ h => h) (Or.inl ⟨by rfl, ?_⟩) (by assumption) ?_
          rotate_left
          · intro wq hSw; (try dsimp only at hSw); (try obtain ⟨⟨q0, q1, q2, q3⟩, q4⟩ := HSC.out wq hSw); first | (go_simp; done) | (go_simp; with_reducible rfl) | with_reducible rfl
          go_simp
          refine wpAnyL_take (i := 1) (v := ?_) rfl (by kernel_rfl) (by kernel_rfl) (by kernel_rfl) (by kernel_rfl) (by kernel_rfl) (fun _ _ _ h => h) (Or.inl ⟨by rfl, ?_⟩) (by assumption) ?_
          rotate_left
          · intro wq hSw; (try dsimp only at hSw); (try obtain ⟨⟨q0, q1, q2, q3⟩, q4⟩ := HSC.out wq hSw); first | (go_simp; done) | (go_simp; with_reducible rfl) | with_reducible rfl
          go_simp
          refine wpAnyL_take (i := 2) (v := ?_) rfl (by kernel_rfl) (by kernel_rfl) (by kernel_rfl) (by kernel_rfl) (by kernel_rfl) (fun _ _ _ h => h) (Or.inl ⟨by rfl, ?_⟩) (by assumption) ?_
          rotate_left
          · intro wq hSw; (try dsimp only at hSw); (try obtain ⟨⟨q0, q1, q2, q3⟩, q4⟩ := HSC.out wq hSw); first | (go_simp; done) | (go_simp; with_reducible rfl) | with_reducible rfl
          go_simp
          refine wpAnyL_take (i := 3) (v := ?_) rfl (by kernel_rfl) (by kernel_rfl) (by kernel_rfl) (by kernel_rfl) (by kernel_rfl) (fun _ _ _ h => h) (Or.inl ⟨by rfl, ?_⟩) (by assumption) ?_
          rotate_left
          · intro wq hSw; (try dsimp only at hSw); (try obtain ⟨⟨q0, q1, q2, q3⟩, q4⟩ := HSC.out wq hSw); first | (go_simp; done) | (go_simp; with_reducible rfl) | with_reducible rfl
          go_simp
          refine wpAnyL_take (i := 4) (v := ?_) rfl (by kernel_rfl) (by kernel_rfl) (by kernel_rfl) (by kernel_rfl) (by kernel_rfl) (fun _ _ _ h => h) (Or.inl ⟨by rfl, ?_⟩) (by assumption) ?_
          rotate_left
          · intro wq hSw; (try dsimp only at hSw); (try obtain ⟨⟨q0, q1, q2, q3⟩, q4⟩ := HSC.out wq hSw); first | (go_simp; done) | (go_simp; with_reducible rfl) | with_reducible rfl
          go_simp
          refine wpAnyL_ready (rs := [5]) (by kernel_rfl) (by simp) ?_
          refine (AllReadyL.cons rfl (fun K hK => ?_) AllReadyL.nil)
          go_simp
          go_wp2_with fail
          refine (vfits_any ek ea el eh v0 vA vn vc vl (HBY.out v0 (kF HBv0.out HB5.out))).mono ?_
          rintro e v1 ⟨rfl, hbz⟩
          have HBv1 := Lib.hid (kF hbz HBv0.out)
          clear hbz
          refine hK.out _ _ ?_ (fun hHeld => ?_)
          · (try dsimp only); exact HBv1.out
          clear hK K
          refine wpAnyL_ready (rs := [6]) (by kernel_rfl) (by simp) ?_
          refine AllReadyL.last rfl (fun K hK => ?_)
          go_simp
          refine hK.out _ _ ?_
          clear hK K
          refine wpAnyL_done (by kernel_rfl) ?_ _
          clear hHeld
          have HW1 := Lib.hid (kF HBv1.out HB5.out)
          clear HSC HCL HBY HS5 HB5 HBv0
          generalize fitsA ek ea el eh vl = FA at *
          by_cases hf : FA = 0
          · have HF2 : Hid (fitF T fs l n 0 0 = fitF T fs l (n - (i + 1)) (i + 1) (sumB fs (i + 1) 0)) := Lib.hid (by rw [HFS.out, if_pos hf])
            have hfb : (FA != 0) = false := by simp [hf]
            clear HFS
            go_wp2_with fail
            exact ⟨⟨i + 1, by omega, by go_num, HF2, HW1⟩, by simp [intOf]; omega⟩
          · have hfb : (FA != 0) = true := by simp [hf]
            have HV4 : Hid (unE T fs n l = 4) := Lib.hid (by rw [HUE.out, HFS.out, if_neg hf]; rfl)
            go_wp2_with fail
            go_ret
            exact HBAD.out 4 _ HV4.out (by decide) (kF HW1.out HB3.out)
        · have HFT : Hid (fitF T fs l n 0 0 = true) := Lib.hid (by rw [HF.out, show n - i = 0 by omega]; rfl)
          have HPw := Lib.hid (HP3.out.below HW.out)
          have HDw := Lib.hid (HD.out.below HWW.out)
          have HOw := Lib.hid (Oth.of_below HWW.out HBS.out)
          clear HF HW HWW HP3 HB3 HD HUE HSP
          go_wp2_with fail
          go_loopw [50] (fun t wy => ∃ (i : Nat) (U : List (Int × Ent)) (cu : Int), i ≤ n ∧ t = .int .i64 i ∧ Hid (upT fs l n 0 0 T = upT fs l (n - i) i (sumB fs i 0) U) ∧ Hid (Good U) ∧ Hid (0 ≤ cu ∧ cu ≤ ch + i) ∧ Hid (DictAt B g U cu wy) ∧ Hid (Pts wy gp n n vs) ∧ Hid (Oth B w wy)) (fun t _ => n - (intOf t).toNat)
          case atStart => exact ⟨0, T, ch, by omega, rfl, Lib.hid rfl, HG, Lib.hid (by have := HCH.out; omega), HDw, HPw, HOw⟩
          case round =>
            clear HPw HDw HOw
            obtain ⟨q, U, cu, hq, rfl, HU, HGU, HCU, HDU, HPU, HOU⟩ := hrel
            by_cases hlq : q < n
            · have hqI : (q : Int) < (n : Int) := by omega
              obtain ⟨bk, off, rfl, hbk, hcs⟩ := HCB.out (by omega)
              have HCX := Lib.hid (fun (x : World) (hx : Oth B w x) => show SlC x bk (off + q * 3) (fs q) from (hcs q hlq).below hbk hx.1)
              obtain ⟨c0, c1, c2'⟩ := HCX.out wr HOU.out
              have HUS : Hid (upT fs l n 0 0 T = upT fs l (n - (q + 1)) (q + 1) (sumB fs (q + 1) 0) (newT (pE (fs q).i (fs q).j (prt l (sumB fs q 0) (fs q)) U) (fs q).i (fs q).j (prt l (sumB fs q 0) (fs q)) U)) := Lib.hid (by rw [HU.out, HSN.out q, show n - q = (n - (q + 1)) + 1 by omega]; rfl)
              have hvq := HV.out q hlq
              have hpr := HRG.out q
              rw [← hvq] at hpr
              rw [← hvq] at HUS
              have HPR := Lib.hid hpr
              have HLV := Lib.hid (fun x (hx : Pts x gp n n vs) => show x.cell? ⟨gp, q, none⟩ = some (.slice (vs q).A (vs q).n (vs q).c) ∧ Byt x x.heap.size (vs q).A (vs q).n (vs q).c (vs q).l from ⟨hx.cell hlq, (hx.byt q hlq).1⟩)
              clear hvq hpr HU hcs HCX
              generalize fs q = s at *
              obtain ⟨si, sj, sn⟩ := s
              generalize vs q = v at *
              obtain ⟨vA, vn, vc, vl⟩ := v
              dsimp only at c0 c1 c2' HUS HPR HLV
              have hba : Below wr.heap.size wr (wr.alloc (.cells #[.int .i64 si, .int .i64 sj, .int .i64 sn] 26)) := (Below.refl _ _).alloc (Nat.le_refl _) _
              have HDX := Lib.hid (HDU.out.below hba)
              have HPX := Lib.hid (HPU.out.below hba)
              have HOX := Lib.hid (HOU.out.trans (Oth.of_below hba (Nat.le_trans HBS.out HOU.out.1.size)))
              have HSX : Hid (Sl3 (wr.alloc (.cells #[.int .i64 si, .int .i64 sj, .int .i64 sn] 26)) wr.heap.size si sj sn) := Lib.hid (heap_alloc_new wr _)
              clear hba HDU HPU HOU
              go_upto_region 16 with fail
              clear c0 c1 c2'
              generalize wr.alloc (.cells #[.int .i64 si, .int .i64 sj, .int .i64 sn] 26) = wx at *
              generalize wr.heap.size = gs at *
              have HSC := Lib.hid (fun (x : World) (hx : Below wx.heap.size wx x) => show (x.cell? ⟨gs, 0, none⟩ = some (.int .i64 si) ∧ x.cell? ⟨gs, 1, none⟩ = some (.int .i64 sj) ∧ x.cell? ⟨gs, 2, none⟩ = some (.int .i64 sn)) ∧ x.cell? ⟨gp, q, none⟩ = some (.slice vA vn vc) from ⟨(HSX.out.below hx).cells, (HLV.out x (HPX.out.below hx)).1⟩)
              refine wp_region_last (fun y => Below wx.heap.size wx y) 7 (by kernel_rfl) (kD _) (fun hHeld => ?_)
              have HBv0 := Lib.hid (kD wx)
              generalize wx.drew = v0 at *
              refine wpAnyL_take (i := 0) (v := ?_) rfl (by kernel_rfl) (by kernel_rfl) (by kernel_rfl) (by kernel_rfl) (by kernel_rfl) (fun _ _ _ h => h) (Or.inl ⟨by rfl, ?_⟩) (by assumption) ?_
              rotate_left
              · intro wq hSw; (try dsimp only at hSw); (try obtain ⟨⟨q0, q1, q2⟩, q3⟩ := HSC.out wq hSw); first | (go_simp; done) | (go_simp; with_reducible rfl) | with_reducible rfl
              go_simp
              refine wpAnyL_take (i := 1) (v := ?_) rfl (by kernel_rfl) (by kernel_rfl) (by kernel_rfl) (by kernel_rfl) (by kernel_rfl) (fun _ _ _ h => h) (Or.inl ⟨by rfl, ?_⟩) (by assumption) ?_
              rotate_left
              · intro wq hSw; (try dsimp only at hSw); (try obtain ⟨⟨q0, q1, q2⟩, q3⟩ := HSC.out wq hSw); first | (go_simp; done) | (go_simp; with_reducible rfl) | with_reducible rfl
              go_simp
              refine wpAnyL_take (i := 2) (v := ?_) rfl (by kernel_rfl) (by kernel_rfl) (by kernel_rfl) (by kernel_rfl) (by kernel_rfl) (fun _ _ _ h => h) (Or.inl ⟨by rfl, ?_⟩) (by assumption) ?_
              rotate_left
              · intro wq hSw; (try dsimp only at hSw); (try obtain ⟨⟨q0, q1, q2⟩, q3⟩ := HSC.out wq hSw); first | (go_simp; done) | (go_simp; with_reducible rfl) | with_reducible rfl
              go_simp
              refine wpAnyL_take (i := 3) (v := ?_) rfl (by kernel_rfl) (by kernel_rfl) (by kernel_rfl) (by kernel_rfl) (by kernel_rfl) (fun _ _ _ h => h) (Or.inl ⟨by rfl, ?_⟩) (by assumption) ?_
              rotate_left
              · intro wq hSw; (try dsimp only at hSw); (try obtain ⟨⟨q0, q1, q2⟩, q3⟩ := HSC.out wq hSw); first | (go_simp; done) | (go_simp; with_reducible rfl) | with_reducible rfl
              go_simp
              refine wpAnyL_take (i := 4) (v := ?_) rfl (by kernel_rfl) (by kernel_rfl) (by kernel_rfl) (by kernel_rfl) (by kernel_rfl) (fun _ _ _ h => h) (Or.inl ⟨by rfl, ?_⟩) (by assumption) ?_
              rotate_left
              · intro wq hSw; (try dsimp only at hSw); (try obtain ⟨⟨q0, q1, q2⟩, q3⟩ := HSC.out wq hSw); first | (go_simp; done) | (go_simp; with_reducible rfl) | with_reducible rfl
              go_simp
              refine wpAnyL_take (i := 5) (v := ?_) rfl (by kernel_rfl) (by kernel_rfl) (by kernel_rfl) (by kernel_rfl) (by kernel_rfl) (fun _ _ _ h => h) (Or.inl ⟨by rfl, ?_⟩) (by assumption) ?_
              rotate_left
              · intro wq hSw; (try dsimp only at hSw); (try obtain ⟨⟨q0, q1, q2⟩, q3⟩ := HSC.out wq hSw); first | (go_simp; done) | (go_simp; with_reducible rfl) | with_reducible rfl
              go_simp
              refine wpAnyL_take (i := 6) (v := ?_) rfl (by kernel_rfl) (by kernel_rfl) (by kernel_rfl) (by kernel_rfl) (by kernel_rfl) (fun _ _ _ h => h) (Or.inl ⟨by rfl, ?_⟩) (by assumption) ?_
              rotate_left
              · intro wq hSw; (try dsimp only at hSw); (try obtain ⟨⟨q0, q1, q2⟩, q3⟩ := HSC.out wq hSw); first | (go_simp; done) | (go_simp; with_reducible rfl) | with_reducible rfl
              go_simp
              refine wpAnyL_ready (rs := [7]) (by kernel_rfl) (by simp) ?_
              refine AllReadyL.last rfl (fun K hK => ?_)
              go_simp
              go_wp2_with fail
              refine (at_put si sj vl vA vn vc (HDX.out.below HBv0.out) HGU.out (by have := HCU.out; have := HCH.out; omega) (HLV.out v0 (HPX.out.below HBv0.out)).2).mono ?_
              rintro e w4 ⟨rfl, hd4, ho4⟩
              have HD4 := Lib.hid hd4
              have HP4 := Lib.hid ((HPX.out.below HBv0.out).oth ho4)
              have HO4 := Lib.hid ((HOX.out.trans (Oth.of_below HBv0.out (Nat.le_trans HBS.out HOX.out.1.size))).trans ho4)
              have hc4 := newC_le (pE si sj vl U) si sj vl U cu
              have HC4 : Hid (0 ≤ newC (pE si sj vl U) si sj vl U cu ∧ newC (pE si sj vl U) si sj vl U cu ≤ ch + ((q + 1 : Nat) : Int)) := Lib.hid (by have := HCU.out; omega)
              have HG4 := Lib.hid (put_good2 HGU.out si sj HPR.out)
              clear hd4 ho4 hc4 HDX HPX HOX HSX HCU HGU
              refine hK.out _ _ ?_
              clear hK K
              refine wpAnyL_done (by kernel_rfl) ?_ _
              clear hHeld HSC HBv0 HLV
              generalize newC (pE si sj vl U) si sj vl U cu = cu4 at *
              generalize newT (pE si sj vl U) si sj vl U = U4 at *
              go_wp2_with fail
              exact ⟨⟨q + 1, U4, cu4, by omega, by go_num, HUS, HG4, HC4, HD4, HP4, HO4⟩, by simp [intOf]; omega⟩
            · have HUF : Hid (upT fs l n 0 0 T = U) := Lib.hid (by rw [HU.out, show n - q = 0 by omega]; rfl)
              have HEE := Lib.hid (HUT.out HFT.out)
              have HCE : Hid (0 ≤ cu ∧ cu ≤ ch + 8) := Lib.hid (by have := HCU.out; omega)
              go_wp2_with fail
              go_ret
              exact ⟨cu, by rw [HEE.out.2]; rfl, by rw [HEE.out.1, HUF.out]; exact HDU.out, HCE.out, HOU.out⟩
    · have HV : Hid (unE T fs n l = 11) := Lib.hid (by unfold unE; rw [if_neg (by rw [hz]; simp), if_pos hs])
      have hml := hB.len
      have hss : ((m : Int) != szE fs n) = true := by rw [← hml]; simp [hs]
      clear h hG hc hB hL hz hs hbad hml
      generalize szE fs n = SE at *
      go_enter Try.func30, Try.ntmps30
      go_wp2_with fail
      refine HCK.out.mono ?_
      rintro e w1 ⟨rfl, hb1⟩
      have HB1 := Lib.hid hb1
      clear hb1 HCK
      go_wp2_with fail
      refine (HSZ.out w1 HB1.out).mono ?_
      rintro e w2 ⟨rfl, hb2⟩
      have HB2 := Lib.hid (kF hb2 HB1.out)
      clear hb2 HSZ HB1
      go_wp2_with fail
      go_ret
      exact HBAD.out 11 _ HV.out (by decide) HB2.out
  · have HV : Hid (unE T fs n l = 14) := Lib.hid (by unfold unE; rw [if_pos hz])
    have hzb : ¬ chkE (mapB T) fs n = 0 := hz
    clear h hG hc hB hL hbad
    generalize chkE (mapB T) fs n = CE at *
    have e0 : (CE != 0) = true := by simp [hzb]
    go_enter Try.func30, Try.ntmps30
    go_wp2_with fail
    refine HCK.out.mono ?_
    rintro e w1 ⟨rfl, hb1⟩
    have HB1 := Lib.hid hb1
    clear hb1 HCK
    go_wp2_with fail
    go_ret
    exact HBAD.out 14 _ HV.out (by decide) HB1.out
end Go.Proofs.Ytgaoplbocjadaaa
