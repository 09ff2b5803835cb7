/- Mappings: the document's Unpack. -/
import Derived.Test.YtgaoplbocjadaaaYmn
namespace Go.Proofs.Ytgaoplbocjadaaa
open Go.RowKit
set_option linter.unusedSimpArgs false
set_option linter.unusedVariables false
def RUnP (base : Nat) (w : World) (T : List (Int × Ent)) (ch : Int) (fs : Nat → SlV) (n : Nat) (l : List Int) (e : Ending) (w' : World) : Prop := ∃ (R' : List (Int × Ent)) (a' : Option Addr) (c' : Nat) (ch' : Int), e = .returned (.tuple #[.agg #[.slice a' R'.length c', .int .i64 ch'], .int .i64 (unE T fs n l)]) ∧
  w'.ownsRow base 77 7 (.slice a' R'.length c') R'.length (fr R') ∧ TieD (unT T fs n l) R' ∧ (0 ≤ ch' ∧ ch' ≤ ch + 8) ∧ Below w.heap.size w w'
theorem RUnP.bad {base : Nat} {w w' : World} {T R : List (Int × Ent)} {ch : Int} {fs : Nat → SlV} {n c : Nat} {a : Option Addr} {l : List Int} {v : Int} (hv : unE T fs n l = v) (h0 : ¬ v = 0) (hc : 0 ≤ ch) (h : w.ownsRow base 77 7 (.slice a R.length c) R.length (fr R)) (ht : TieD T R) (hb : Below w.heap.size w w') : RUnP base w T ch fs n l (.returned (.tuple #[.agg #[.slice a R.length c, .int .i64 ch], .int .i64 v])) w' :=
  ⟨R, a, c, ch, by rw [hv], own_below h hb, by unfold unT; rw [hv, if_neg h0]; exact ht, ⟨hc, by omega⟩, hb⟩
/-- What stands in the document's Unpack: the dictionary, and the answer's box. -/
structure UpX (w0 : World) (a : Option Addr) (n c : Nat) (ch : Int) (x : World) : Prop where
  box : RBox x w0.heap.size a n c ch
  res : RBox x (w0.heap.size + 1) none 0 0 0
  blw : Below w0.heap.size w0 x
theorem UpX.below {w0 x y : World} {a : Option Addr} {n c : Nat} {ch : Int} (h : UpX w0 a n c ch x) (hb : Below x.heap.size x y) : UpX w0 a n c ch y := ⟨h.box.below hb, h.res.below hb, kF hb h.blw⟩
theorem UpX.put {w0 x : World} {a : Option Addr} {n c q : Nat} {ch : Int} (h : UpX w0 a n c ch x) (hq : w0.heap.size + 2 ≤ q) (u v : Value) : UpX w0 a n c ch ((x.setCell ⟨q, 0, none⟩ u).setCell ⟨q, 1, none⟩ v) :=
  ⟨(heap_other _ _ _ _ (by simp; omega)).trans ((heap_other _ _ _ _ (by simp; omega)).trans h.box), (heap_other _ _ _ _ (by simp; omega)).trans ((heap_other _ _ _ _ (by simp; omega)).trans h.res), Below.setCell (p := ⟨q, 1, none⟩) (Below.setCell (p := ⟨q, 0, none⟩) h.blw (by simp; omega) _) (by simp; omega) _⟩
/-- A part, as it is cut. -/
theorem Byt.part {w : World} {B n c : Nat} {b o : Nat} {l : List Int} (h : Byt w B (some ⟨b, o, none⟩) n c l) {at_ Kb : Nat} (hk : at_ + Kb ≤ n) (h1 : at_ < c) : Byt w B (some ⟨b, o + at_, none⟩) Kb (c - at_) ((l.drop at_).take Kb) := by
  have h2 := (h.cut (s := at_) (by omega)).take (k := Kb) (by omega)
  rw [if_neg (by omega)] at h2
  have e : (⟨b, o, none⟩ : Addr).add at_ = ⟨b, o + at_, none⟩ := by simp [Addr.add]
  simpa [e] using h2
set_option maxRecDepth 100000 in
set_option maxHeartbeats 8000000 in
theorem runpack_any {base : Nat} {T R : List (Int × Ent)} {ch : Int} {w : World} {a A A2 : Option Addr} {cR m c n c2 : Nat} {fs : Nat → SlV} {l : List Int} (h : w.ownsRow base 77 7 (.slice a R.length cR) R.length (fr R)) (hbase : base ≤ w.heap.size) (ht : TieD T R) (hc : 0 ≤ ch ∧ ch ≤ 900000) (hB : Byt w w.heap.size A m c l) (hL : Els SlC 3 w w.heap.size A2 n c2 fs) :
    Calls Try.prog 29 #[.agg #[.slice a R.length cR, .int .i64 ch], .slice A m c, .slice A2 n c2] w (RUnP base w T ch fs n l) := by
  have hcap := hL.cap
  have hmax := hL.max
  have hmb := byt_max hB
  simp only [maxLen] at hmax
  have hbcap := hB.cap
  have hbmax := hB.max
  simp only [maxLen] at hbmax
  have hx0 : UpX w a R.length cR ch ((w.alloc (.cells #[.slice a R.length cR, .int .i64 ch] 33)).alloc (.cells #[.slice none 0 0, .int .i64 0] 33)) := ⟨heap_alloc2_old w _ _, heap_alloc2_new w _ _, ((Below.refl _ _).alloc (Nat.le_refl _) _).alloc (by simp) _⟩
  have HX0 := Lib.hid hx0
  have HBAD := Lib.hid (fun (v : Int) (w' : World) (hv : unE T fs n l = v) (h0 : ¬ v = 0) (hb : Below w.heap.size w w') => RUnP.bad hv h0 hc.1 h ht hb)
  have HCK := Lib.hid (fun x hx => dict_rcheck (ch := ch) h ht hL x hx)
  have HSZ := Lib.hid (fun x (hx : Below w.heap.size w x) => rsize25_any x A2 n c2 fs (hL.lowS hx))
  have HC := Lib.hid (fun (x : World) (hx : Below w.heap.size w x) (h0 : 0 < n) => show ∃ b off, A2 = some ⟨b, off, none⟩ ∧ b < w.heap.size ∧ ∀ i, i < n → SlC x b (off + i * 3) (fs i) from by
    obtain ⟨b, off, e, hb, h⟩ := hL.cells h0
    exact ⟨b, off, e, hb, fun i hi => (h i hi).below hb hx⟩)
  have hfew := ht.good.few
  have HAT := Lib.hid (fun x (hx : Below w.heap.size w x) (si sj : Int) => rat_any x base R.length cR a R ch si sj (own_below h hx) rfl (by rw [← ht.len]; omega) (fun y hy => (ht.ok y hy).1))
  have HCR := Lib.hid (fun x (hx : Below w.heap.size w x) (p : Nat) (y : Int × Ent) (hy : R[p]? = some y) => rowsR_at (own_below h hx) hy)
  have HTH := Lib.hid (fun (p : Nat) (y : Int × Ent) (hy : R[p]? = some y) => (ht.at_ hy).2)
  have HHS := Lib.hid (fun (q : Int) (hq : hasI q T = true) (hn : ∀ y ∈ R, ¬ y.1 = q) => show False from by rw [ht.hasnt hn] at hq; cases hq)
  have HLT := Lib.hid (fun (p : Nat) (y : Int × Ent) (hy : R[p]? = some y) => show p < R.length from (List.getElem?_eq_some_iff.1 hy).1)
  have hRl : R.length ≤ 600 := by rw [← ht.len]; exact hfew
  have HBY := Lib.hid (fun x (hx : Below w.heap.size w x) => hB.step hx)
  have HLN := Lib.hid hB.len
  have HBASE := Lib.hid hbase
  obtain ⟨d0, d1⟩ := hx0.box.cells
  obtain ⟨u0, u1⟩ := hx0.res.cells
  have fu0 := frozen_of_row _ _ 0 _ _ hx0.res
  have fu1 := frozen_of_row _ _ 1 _ _ hx0.res
  by_cases hz : chkE (mapB T) fs n = 0
  · rw [hz] at HCK
    by_cases hs : (l.length : Int) = szE fs n
    · have h8 := (chkE_zero hz).1
      have hin : ∀ i, i < n → mapB T (fs i) = true := fun i hi => chkG_in T fs n 0 0 (chkE_zero hz).2 i (by omega) (by omega)
      have hlen : l.length = sumB fs n 0 := by
        have h1 := (chkE_sz ht.good hz).1
        have h2 := sumB_pk ht.good fs n 0 (fun j _ hj => hin j (by omega))
        omega
      have HIN := Lib.hid (fun i hi => (mapB_iff.1 (hin i hi)).1)
      have HBT := Lib.hid (fun i hi => bys_in (hin i hi))
      have HLE := Lib.hid (fun i (hi : i < n) => show sumB fs i 0 + bys (fs i) ≤ l.length from by
        have := sumB_le fs l hlen (show i + 1 ≤ n by omega)
        rw [sumB_snoc, Nat.zero_add] at this
        exact this)
      have HM64 : Hid (m ≤ 64) := Lib.hid (by have := (chkE_sz ht.good hz).2; have := sumB_pk ht.good fs n 0 (fun j _ hj => hin j (by omega)); have := hB.len; omega)
      have HSN := Lib.hid (fun i => (sumB_snoc fs i 0).trans (by rw [Nat.zero_add]))
      have hss : ((m : Int) != szE fs n) = false := by rw [← hs, hB.len]; simp
      have hUE : unE T fs n l = if fitF T fs l n 0 0 = true then 0 else 4 := by
        unfold unE
        rw [if_neg (by rw [hz]; simp), if_neg (by rw [← hs]; simp)]
      have HUE := Lib.hid hUE
      have HUT : Hid (fitF T fs l n 0 0 = true → unT T fs n l = upT fs l n 0 0 T ∧ unE T fs n l = 0) := Lib.hid (fun hf => by
        have e : unE T fs n l = 0 := by rw [hUE, if_pos hf]
        exact ⟨by unfold unT; rw [if_pos e], e⟩)
      have HOW := Lib.hid h
      have HT := Lib.hid ht
      have HCH := Lib.hid hc
      have H8 := Lib.hid h8
      clear h ht hc hB hL hz hs hin hlen hUE hx0 hbase hfew
      generalize szE fs n = SE at *
      have HOWN := Lib.hid (fun x (hx : Below w.heap.size w x) => own_below HOW.out hx)
      have HLR : Hid (R.length = R.length) := Lib.hid rfl
      obtain ⟨N, hN⟩ : ∃ N, R.length = N := ⟨_, rfl⟩
      have HNR := Lib.hid hN
      rw [hN] at d0 HX0 HCK HAT HCR HLT HOW HOWN HBAD hRl ⊢
      clear hN HLR
      go_enter Try.func29, Try.ntmps29
      go_wp2_with fail
      generalize ((w.alloc (.cells #[.slice a N cR, .int .i64 ch] 33)).alloc (.cells #[.slice none 0 0, .int .i64 0] 33)) = w0 at *
      refine (HCK.out w0 HX0.out.blw).mono ?_
      rintro e w1 ⟨rfl, hb1⟩
      have HX1 := Lib.hid (HX0.out.below hb1)
      clear hb1 HCK d0 d1 u0 u1 fu0 fu1 HX0
      go_wp2_with fail
      refine (HSZ.out w1 HX1.out.blw).mono ?_
      rintro e w2 ⟨rfl, hb2⟩
      have HX2 := Lib.hid (HX1.out.below hb2)
      clear hb2 HSZ HX1
      obtain ⟨d0, d1⟩ := HX2.out.box.cells
      have hba : Below w2.heap.size w2 (w2.alloc (.cells #[.slice a N cR, .int .i64 ch] 33)) := (Below.refl _ _).alloc (Nat.le_refl _) _
      have HX3 := Lib.hid (HX2.out.below hba)
      have HQ3 : Hid (RBox (w2.alloc (.cells #[.slice a N cR, .int .i64 ch] 33)) w2.heap.size a N cR ch) := Lib.hid (heap_alloc_new w2 _)
      have HGQ : Hid (w.heap.size + 2 ≤ w2.heap.size) := Lib.hid (by have := (Array.getElem?_eq_some_iff.1 HX2.out.res).1; omega)
      have HO3 := Lib.hid (HOWN.out _ HX3.out.blw)
      go_upto_region 6 with fail
      clear hba HX2 d0 d1 hss
      generalize w2.alloc (.cells #[.slice a N cR, .int .i64 ch] 33) = w3 at *
      generalize w2.heap.size = gq at *
      go_wp2_with fail
      go_loopw [9, 10] (fun t9 t10 wr => ∃ (i k : Nat) (U R' : List (Int × Ent)) (a' : Option Addr) (c' : Nat) (cu : Int), i ≤ n ∧ t9 = .int .i64 k ∧ t10 = .int .i64 i ∧ Hid (k = sumB fs i 0) ∧ Hid (fitF T fs l n 0 0 = fitF T fs l (n - i) i k) ∧ Hid (upT fs l n 0 0 T = upT fs l (n - i) i k U) ∧ Hid (UpX w a N cR ch wr) ∧ Hid (RBox wr gq a' R'.length c' cu) ∧ Hid (wr.ownsRow base 77 7 (.slice a' R'.length c') R'.length (fr R')) ∧ Hid (TieD U R') ∧ Hid (0 ≤ cu ∧ cu ≤ ch + i)) (fun _ t _ => n - (intOf t).toNat)
      case atStart => exact ⟨0, 0, T, R, a, cR, ch, by omega, rfl, rfl, Lib.hid rfl, Lib.hid rfl, Lib.hid rfl, HX3, by rw [HNR.out]; exact HQ3, by rw [HNR.out]; exact HO3, HT, Lib.hid (by have := HCH.out; omega)⟩
      case round =>
        clear HX3 HQ3 HO3
        obtain ⟨i, k, U, R', a', c', cu, hi, rfl, rfl, HKS, HF, HU, HX, HQ, HO, HTU, HCU⟩ := hrel
        by_cases hlt : i < n
        · have hiI : (i : Int) < (n : Int) := by omega
          obtain ⟨bk, off, rfl, hbk, -⟩ := HC.out wr HX.out.blw (by omega)
          have HCX := Lib.hid (fun (x : World) (hx : Below w.heap.size w x) => show x.cell? ⟨bk, off + i * 3, none⟩ = some (.int .i64 (fs i).i) ∧ x.cell? ⟨bk, off + i * 3 + 1, none⟩ = some (.int .i64 (fs i).j) ∧ x.cell? ⟨bk, off + i * 3 + 2, none⟩ = some (.int .i64 (fs i).n) from by
            obtain ⟨b', o', e', -, hh⟩ := HC.out x hx (by omega)
            cases e'
            obtain ⟨c0, c1, c2⟩ := hh i hlt
            exact ⟨c0, c1, c2⟩)
          have hbi := HBT.out i hlt
          have hle := HLE.out i hlt
          have HHI := Lib.hid (show hasI (numI (fs i).i (fs i).j) T = true from HIN.out i hlt)
          have HFS : Hid (fitF T fs l n 0 0 = if fitsA (entS T (fs i)).k (entS T (fs i)).a (entS T (fs i)).lo (entS T (fs i)).hi (prt l k (fs i)) = 0 then fitF T fs l (n - (i + 1)) (i + 1) (k + bys (fs i)) else false) := Lib.hid (by rw [HF.out, show n - i = (n - (i + 1)) + 1 by omega]; rfl)
          have HUS : Hid (upT fs l n 0 0 T = upT fs l (n - (i + 1)) (i + 1) (k + bys (fs i)) (newT (pE (fs i).i (fs i).j (prt l k (fs i)) U) (fs i).i (fs i).j (prt l k (fs i)) U)) := Lib.hid (by rw [HU.out, show n - i = (n - (i + 1)) + 1 by omega]; rfl)
          have HKN : Hid (k + bys (fs i) = sumB fs (i + 1) 0) := Lib.hid (by rw [HSN.out i, HKS.out])
          rw [← HKS.out] at hle
          have HEN : Hid (entS T (fs i) = thI e0 (numI (fs i).i (fs i).j) T) := Lib.hid rfl
          obtain ⟨Kb, hKb⟩ : ∃ Kb, bys (fs i) = Kb := ⟨_, rfl⟩
          have HPT : Hid (prt l k (fs i) = (l.drop k).take Kb) := Lib.hid (by unfold prt; rw [hKb])
          rw [hKb] at hbi hle HFS HUS HKN
          rw [HEN.out] at HFS
          have HQU : Hid ((fs i).n.tdiv 8 = (Kb : Int)) := Lib.hid (by rcases hbi with ⟨e, e2⟩ | ⟨e, e2⟩ | ⟨e, e2⟩ <;> (rw [e, e2]; rfl))
          have hK4 : 1 ≤ Kb ∧ Kb ≤ 4 := by omega
          have hkm : k + Kb ≤ m := by rw [← HLN.out]; exact hle
          have h64 := HM64.out
          obtain ⟨ba, oa, rfl, -, -⟩ := (HBY.out wr HX.out.blw).cells (by omega)
          have HYP := Lib.hid (fun x (hx : Below w.heap.size w x) => show Byt x x.heap.size (some ⟨ba, oa + k, none⟩) Kb (c - k) (prt l k (fs i)) from by rw [HPT.out]; exact (HBY.out x hx).part hkm (by omega))
          have HTE := Lib.hid (fun (p : Nat) (y : Int × Ent) (hy : R[p]? = some y) (hq : y.1 = numI (fs i).i (fs i).j) => show y.2 = thI e0 (numI (fs i).i (fs i).j) T from by rw [← hq]; exact (HTH.out p y hy).symm)
          clear hbi hle hKb HF HU HKS HPT HEN
          generalize thI e0 (numI (fs i).i (fs i).j) T = E at *
          generalize prt l k (fs i) = PI at *
          generalize fs i = s at *
          obtain ⟨si, sj, sn⟩ := s
          obtain ⟨ek, ea, el, eh, eb⟩ := E
          dsimp only at HCX HHI HFS HUS HQU HTE
          obtain ⟨c0, c1, c2'⟩ := HCX.out wr HX.out.blw
          have iq : sn.tdiv 8 = (Kb : Int) := HQU.out
          have iw : IntKind.i64.wrap (Kb : Int) = (Kb : Int) := IntWalk.i64_in _ (by omega)
          go_upto_region 11 with fail
          clear c0 c1 c2' iq iw
          have ia : IntKind.i64.wrap ((k : Int) + (Kb : Int)) = (k : Int) + (Kb : Int) := IntWalk.i64_in _ (by omega)
          have l1 : (k : Int) ≤ (k : Int) + (Kb : Int) := by omega
          have l2 : (k : Int) + (Kb : Int) ≤ (c : Int) := by omega
          have l3 : ¬ c = k := by omega
          have l4 : k + Kb ≤ c := by omega
          have l5 : ((k : Int) + (Kb : Int)).toNat - k = Kb := by omega
          have HSC := Lib.hid (fun (x : World) (hx : Below wr.heap.size wr x) => show (x.cell? ⟨bk, off + i * 3, none⟩ = some (.int .i64 si) ∧ x.cell? ⟨bk, off + i * 3 + 1, none⟩ = some (.int .i64 sj)) ∧ x.cell? ⟨w.heap.size, 0, none⟩ = some (.slice a N cR) ∧ x.cell? ⟨w.heap.size, 1, none⟩ = some (.int .i64 ch) from ⟨⟨(HCX.out x (kF hx HX.out.blw)).1, (HCX.out x (kF hx HX.out.blw)).2.1⟩, (HX.out.below hx).box.cells⟩)
          refine wp_region_last (fun y => Below wr.heap.size wr y) 19 (by kernel_rfl) (kD _) (fun hHeld => ?_)
          have HBv0 := Lib.hid (kD wr)
          generalize wr.drew = v0 at *
          refine wpAnyL_take (i := 0) (v := ?_) rfl (by kernel_rfl) (by kernel_rfl) (by kernel_rfl) (by kernel_rfl) (by kernel_rfl) (fun _ _ _ h => h) (Or.inl ⟨by rfl, ?_⟩) (by assumption) ?_
          rotate_left
          · intro wq hSw; (try dsimp only at hSw); (try obtain ⟨⟨q0, q1⟩, q2, q3⟩ := HSC.out wq hSw); first | (go_simp; done) | (go_simp; with_reducible rfl) | with_reducible rfl
          go_simp
          refine wpAnyL_take (i := 1) (v := ?_) rfl (by kernel_rfl) (by kernel_rfl) (by kernel_rfl) (by kernel_rfl) (by kernel_rfl) (fun _ _ _ h => h) (Or.inl ⟨by rfl, ?_⟩) (by assumption) ?_
          rotate_left
          · intro wq hSw; (try dsimp only at hSw); (try obtain ⟨⟨q0, q1⟩, q2, q3⟩ := HSC.out wq hSw); first | (go_simp; done) | (go_simp; with_reducible rfl) | with_reducible rfl
          go_simp
          refine wpAnyL_take (i := 2) (v := ?_) rfl (by kernel_rfl) (by kernel_rfl) (by kernel_rfl) (by kernel_rfl) (by kernel_rfl) (fun _ _ _ h => h) (Or.inl ⟨by rfl, ?_⟩) (by assumption) ?_
          rotate_left
          · intro wq hSw; (try dsimp only at hSw); (try obtain ⟨⟨q0, q1⟩, q2, q3⟩ := HSC.out wq hSw); first | (go_simp; done) | (go_simp; with_reducible rfl) | with_reducible rfl
          go_simp
          refine wpAnyL_take (i := 3) (v := ?_) rfl (by kernel_rfl) (by kernel_rfl) (by kernel_rfl) (by kernel_rfl) (by kernel_rfl) (fun _ _ _ h => h) (Or.inl ⟨by rfl, ?_⟩) (by assumption) ?_
          rotate_left
          · intro wq hSw; (try dsimp only at hSw); (try obtain ⟨⟨q0, q1⟩, q2, q3⟩ := HSC.out wq hSw); first | (go_simp; done) | (go_simp; with_reducible rfl) | with_reducible rfl
          go_simp
          refine wpAnyL_take (i := 4) (v := ?_) rfl (by kernel_rfl) (by kernel_rfl) (by kernel_rfl) (by kernel_rfl) (by kernel_rfl) (fun _ _ _ h => h) (Or.inl ⟨by rfl, ?_⟩) (by assumption) ?_
          rotate_left
          · intro wq hSw; (try dsimp only at hSw); (try obtain ⟨⟨q0, q1⟩, q2, q3⟩ := HSC.out wq hSw); first | (go_simp; done) | (go_simp; with_reducible rfl) | with_reducible rfl
          go_simp
          refine wpAnyL_take (i := 5) (v := ?_) rfl (by kernel_rfl) (by kernel_rfl) (by kernel_rfl) (by kernel_rfl) (by kernel_rfl) (fun _ _ _ h => h) (Or.inl ⟨by rfl, ?_⟩) (by assumption) ?_
          rotate_left
          · intro wq hSw; (try dsimp only at hSw); (try obtain ⟨⟨q0, q1⟩, q2, q3⟩ := HSC.out wq hSw); first | (go_simp; done) | (go_simp; with_reducible rfl) | with_reducible rfl
          go_simp
          refine wpAnyL_take (i := 6) (v := ?_) rfl (by kernel_rfl) (by kernel_rfl) (by kernel_rfl) (by kernel_rfl) (by kernel_rfl) (fun _ _ _ h => h) (Or.inl ⟨by rfl, ?_⟩) (by assumption) ?_
          rotate_left
          · intro wq hSw; (try dsimp only at hSw); (try obtain ⟨⟨q0, q1⟩, q2, q3⟩ := HSC.out wq hSw); first | (go_simp; done) | (go_simp; with_reducible rfl) | with_reducible rfl
          go_simp
          refine wpAnyL_take (i := 7) (v := ?_) rfl (by kernel_rfl) (by kernel_rfl) (by kernel_rfl) (by kernel_rfl) (by kernel_rfl) (fun _ _ _ h => h) (Or.inl ⟨by rfl, ?_⟩) (by assumption) ?_
          rotate_left
          · intro wq hSw; (try dsimp only at hSw); (try obtain ⟨⟨q0, q1⟩, q2, q3⟩ := HSC.out wq hSw); first | (go_simp; done) | (go_simp; with_reducible rfl) | with_reducible rfl
          go_simp
          refine wpAnyL_take (i := 12) (v := ?_) rfl (by kernel_rfl) (by kernel_rfl) (by kernel_rfl) (by kernel_rfl) (by kernel_rfl) (fun _ _ _ h => h) (Or.inl ⟨by rfl, ?_⟩) (by assumption) ?_
          rotate_left
          · intro wq hSw; (try dsimp only at hSw); (try obtain ⟨⟨q0, q1⟩, q2, q3⟩ := HSC.out wq hSw); first | (go_simp; done) | (go_simp; with_reducible rfl) | with_reducible rfl
          go_simp
          refine wpAnyL_take (i := 13) (v := ?_) rfl (by kernel_rfl) (by kernel_rfl) (by kernel_rfl) (by kernel_rfl) (by kernel_rfl) (fun _ _ _ h => h) (Or.inl ⟨by rfl, ?_⟩) (by assumption) ?_
          rotate_left
          · intro wq hSw; (try dsimp only at hSw); (try obtain ⟨⟨q0, q1⟩, q2, q3⟩ := HSC.out wq hSw); first | (go_simp; done) | (go_simp; with_reducible rfl) | with_reducible rfl
          go_simp
          refine wpAnyL_take (i := 14) (v := ?_) rfl (by kernel_rfl) (by kernel_rfl) (by kernel_rfl) (by kernel_rfl) (by kernel_rfl) (fun _ _ _ h => h) (Or.inl ⟨by rfl, ?_⟩) (by assumption) ?_
          rotate_left
          · intro wq hSw; (try dsimp only at hSw); (try obtain ⟨⟨q0, q1⟩, q2, q3⟩ := HSC.out wq hSw); first | (go_simp; done) | (go_simp; with_reducible rfl) | with_reducible rfl
          go_simp
          refine wpAnyL_take (i := 15) (v := ?_) rfl (by kernel_rfl) (by kernel_rfl) (by kernel_rfl) (by kernel_rfl) (by kernel_rfl) (fun _ _ _ h => h) (Or.inl ⟨by rfl, ?_⟩) (by assumption) ?_
          rotate_left
          · intro wq hSw; (try dsimp only at hSw); (try obtain ⟨⟨q0, q1⟩, q2, q3⟩ := HSC.out wq hSw); first | (go_simp; done) | (go_simp; with_reducible rfl) | with_reducible rfl
          go_simp
          refine wpAnyL_take (i := 16) (v := ?_) rfl (by kernel_rfl) (by kernel_rfl) (by kernel_rfl) (by kernel_rfl) (by kernel_rfl) (fun _ _ _ h => h) (Or.inl ⟨by rfl, ?_⟩) (by assumption) ?_
          rotate_left
          · intro wq hSw; (try dsimp only at hSw); (try obtain ⟨⟨q0, q1⟩, q2, q3⟩ := HSC.out wq hSw); first | (go_simp; done) | (go_simp; with_reducible rfl) | with_reducible rfl
          go_simp
          refine wpAnyL_take (i := 17) (v := .slice (some ⟨ba, oa + k, none⟩) Kb (c - k)) rfl (by kernel_rfl) (by kernel_rfl) (by kernel_rfl) (by kernel_rfl) (by kernel_rfl) (fun _ _ _ h => h) (Or.inl ⟨by rfl, ?_⟩) (by assumption) ?_
          · intro wq hSw; (try dsimp only at hSw); (try obtain ⟨⟨q0, q1⟩, q2, q3⟩ := HSC.out wq hSw); first | (go_simp; done) | (go_simp; with_reducible rfl) | with_reducible rfl
          go_simp
          refine wpAnyL_ready (rs := [8]) (by kernel_rfl) (by simp) ?_
          refine (AllReadyL.cons rfl (fun K hK => ?_) AllReadyL.nil)
          go_simp
          go_wp2_with fail
          have hat := HAT.out v0 (kF HBv0.out HX.out.blw) si sj
          unfold AtP at hat
          refine hat.mono ?_
          rintro e v1 ⟨hbz, hcase⟩
          have HBv1 := Lib.hid (kF hbz HBv0.out)
          clear hbz hat
          rcases hcase with ⟨p, y, hy, hq, -, rfl⟩ | ⟨hn, rfl⟩
          · obtain ⟨gr, rfl, hg, hnc, hm, -⟩ := HCR.out v1 (kF HBv1.out HX.out.blw) p y hy
            have HC4 := Lib.hid (fun x (hx : Below wr.heap.size wr x) => show x.cell? ⟨gr, p * 7 + 2, none⟩ = some (.int .i64 y.2.k) ∧ x.cell? ⟨gr, p * 7 + 3, none⟩ = some (.int .i64 y.2.a) ∧ x.cell? ⟨gr, p * 7 + 4, none⟩ = some (.int .i64 y.2.lo) ∧ x.cell? ⟨gr, p * 7 + 5, none⟩ = some (.int .i64 y.2.hi) from by
              obtain ⟨g', e', _, _, _, hc7⟩ := HCR.out x (kF hx HX.out.blw) p y hy
              cases e'
              exact ⟨hc7.2.2.1, hc7.2.2.2.1, hc7.2.2.2.2.1, hc7.2.2.2.2.2.1⟩)
            have hpN := HLT.out p y hy
            have hpI : (p : Int) < (N : Int) := by omega
            simp only [maxLen] at hm
            have hte := HTE.out p y hy hq
            obtain ⟨yq, ye⟩ := y
            dsimp only at hte HC4
            subst hte
            dsimp only at HC4
            clear hy hq hg
            refine hK.out _ _ ?_ (fun hHeld => ?_)
            · (try dsimp only); exact HBv1.out
            clear hK K
            refine wpAnyL_take (i := 9) (v := ?_) rfl (by kernel_rfl) (by kernel_rfl) (by kernel_rfl) (by kernel_rfl) (by kernel_rfl) (fun _ _ _ h => h) (Or.inl ⟨by rfl, ?_⟩) (by assumption) ?_
            rotate_left
            · intro wq hSw; (try dsimp only at hSw); (try obtain ⟨q0, q1, q2, q3⟩ := HC4.out wq hSw); first | (go_simp; done) | (go_simp; with_reducible rfl) | with_reducible rfl
            go_simp
            refine wpAnyL_take (i := 10) (v := ?_) rfl (by kernel_rfl) (by kernel_rfl) (by kernel_rfl) (by kernel_rfl) (by kernel_rfl) (fun _ _ _ h => h) (Or.inl ⟨by rfl, ?_⟩) (by assumption) ?_
            rotate_left
            · intro wq hSw; (try dsimp only at hSw); (try obtain ⟨q0, q1, q2, q3⟩ := HC4.out wq hSw); first | (go_simp; done) | (go_simp; with_reducible rfl) | with_reducible rfl
            go_simp
            refine wpAnyL_take (i := 11) (v := ?_) rfl (by kernel_rfl) (by kernel_rfl) (by kernel_rfl) (by kernel_rfl) (by kernel_rfl) (fun _ _ _ h => h) (Or.inl ⟨by rfl, ?_⟩) (by assumption) ?_
            rotate_left
            · intro wq hSw; (try dsimp only at hSw); (try obtain ⟨q0, q1, q2, q3⟩ := HC4.out wq hSw); first | (go_simp; done) | (go_simp; with_reducible rfl) | with_reducible rfl
            go_simp
            refine wpAnyL_ready (rs := [18]) (by kernel_rfl) (by simp) ?_
            refine (AllReadyL.cons rfl (fun K hK => ?_) AllReadyL.nil)
            go_simp
            go_wp2_with fail
            refine (rfits_any ek ea el eh v1 _ Kb (c - k) PI (HYP.out v1 (kF HBv1.out HX.out.blw))).mono ?_
            rintro e v2 ⟨rfl, hbz⟩
            have HBv2 := Lib.hid (kF hbz HBv1.out)
            clear hbz
            refine hK.out _ _ ?_ (fun hHeld => ?_)
            · (try dsimp only); exact HBv2.out
            clear hK K
            refine wpAnyL_ready (rs := [19]) (by kernel_rfl) (by simp) ?_
            refine AllReadyL.last rfl (fun K hK => ?_)
            go_simp
            refine hK.out _ _ ?_
            clear hK K
            refine wpAnyL_done (by kernel_rfl) ?_ _
            clear hHeld
            have HX2 := Lib.hid (HX.out.below HBv2.out)
            have HQ2 := Lib.hid (HQ.out.below HBv2.out)
            have HO2 := Lib.hid (own_below HO.out HBv2.out)
            clear HSC HC4 HBv0 HBv1 HBv2 HX HQ HO
            generalize fitsA ek ea el eh PI = FA at *
            by_cases hf : FA = 0
            · have HF2 : Hid (fitF T fs l n 0 0 = fitF T fs l (n - (i + 1)) (i + 1) (k + Kb)) := Lib.hid (by rw [HFS.out, if_pos hf])
              have hfb : (FA != 0) = false := by simp [hf]
              clear HFS
              have HPU := Lib.hid (fun (y : World) (hy : y.ownsRow base 77 7 (.slice a' R'.length c') R'.length (fr R')) (hB : base ≤ y.heap.size) (hb : Byt y y.heap.size (some ⟨ba, oa + k, none⟩) Kb (c - k) PI) => drput_tie (ch := cu) si sj PI _ Kb (c - k) hy hB HTU.out (by have := HCU.out; have := HCH.out; omega) hb)
              have hc4 := newC_le (pE si sj PI U) si sj PI U cu
              have HC4 : Hid (0 ≤ newC (pE si sj PI U) si sj PI U cu ∧ newC (pE si sj PI U) si sj PI U cu ≤ ch + ((i + 1 : Nat) : Int)) := Lib.hid (by have := HCU.out; omega)
              clear hc4
              generalize newC (pE si sj PI U) si sj PI U cu = cu4 at *
              generalize newT (pE si sj PI U) si sj PI U = U4 at *
              generalize pE si sj PI U = PE at *
              go_upto_region 13 with fail
              have HSC := Lib.hid (fun (x : World) (hx : Below w.heap.size w x) => show x.cell? ⟨bk, off + i * 3, none⟩ = some (.int .i64 si) ∧ x.cell? ⟨bk, off + i * 3 + 1, none⟩ = some (.int .i64 sj) from ⟨(HCX.out x hx).1, (HCX.out x hx).2.1⟩)
              refine wp_region_last (fun y => Below w.heap.size w y) 16 (by kernel_rfl) (kF (kD _) HX2.out.blw) (fun hHeld => ?_)
              have HBv0 := Lib.hid (kD v2)
              have HSO := Lib.hid (fun (x : World) (hx : Below v2.heap.size v2 x) => show Below w.heap.size w x from kF hx HX2.out.blw)
              generalize v2.drew = y0 at *
              refine wpAnyL_take (i := 1) (v := ?_) rfl (by kernel_rfl) (by kernel_rfl) (by kernel_rfl) (by kernel_rfl) (by kernel_rfl) (fun _ _ _ h => h) (Or.inl ⟨by rfl, ?_⟩) (by assumption) ?_
              rotate_left
              · intro wq hSw; (try dsimp only at hSw); (try obtain ⟨q0, q1⟩ := HSC.out wq hSw); first | (go_simp; done) | (go_simp; with_reducible rfl) | with_reducible rfl
              go_simp
              refine wpAnyL_take (i := 2) (v := ?_) rfl (by kernel_rfl) (by kernel_rfl) (by kernel_rfl) (by kernel_rfl) (by kernel_rfl) (fun _ _ _ h => h) (Or.inl ⟨by rfl, ?_⟩) (by assumption) ?_
              rotate_left
              · intro wq hSw; (try dsimp only at hSw); (try obtain ⟨q0, q1⟩ := HSC.out wq hSw); first | (go_simp; done) | (go_simp; with_reducible rfl) | with_reducible rfl
              go_simp
              refine wpAnyL_take (i := 3) (v := ?_) rfl (by kernel_rfl) (by kernel_rfl) (by kernel_rfl) (by kernel_rfl) (by kernel_rfl) (fun _ _ _ h => h) (Or.inl ⟨by rfl, ?_⟩) (by assumption) ?_
              rotate_left
              · intro wq hSw; (try dsimp only at hSw); (try obtain ⟨q0, q1⟩ := HSC.out wq hSw); first | (go_simp; done) | (go_simp; with_reducible rfl) | with_reducible rfl
              go_simp
              refine wpAnyL_take (i := 4) (v := ?_) rfl (by kernel_rfl) (by kernel_rfl) (by kernel_rfl) (by kernel_rfl) (by kernel_rfl) (fun _ _ _ h => h) (Or.inl ⟨by rfl, ?_⟩) (by assumption) ?_
              rotate_left
              · intro wq hSw; (try dsimp only at hSw); (try obtain ⟨q0, q1⟩ := HSC.out wq hSw); first | (go_simp; done) | (go_simp; with_reducible rfl) | with_reducible rfl
              go_simp
              refine wpAnyL_take (i := 5) (v := ?_) rfl (by kernel_rfl) (by kernel_rfl) (by kernel_rfl) (by kernel_rfl) (by kernel_rfl) (fun _ _ _ h => h) (Or.inl ⟨by rfl, ?_⟩) (by assumption) ?_
              rotate_left
              · intro wq hSw; (try dsimp only at hSw); (try obtain ⟨q0, q1⟩ := HSC.out wq hSw); first | (go_simp; done) | (go_simp; with_reducible rfl) | with_reducible rfl
              go_simp
              refine wpAnyL_take (i := 6) (v := ?_) rfl (by kernel_rfl) (by kernel_rfl) (by kernel_rfl) (by kernel_rfl) (by kernel_rfl) (fun _ _ _ h => h) (Or.inl ⟨by rfl, ?_⟩) (by assumption) ?_
              rotate_left
              · intro wq hSw; (try dsimp only at hSw); (try obtain ⟨q0, q1⟩ := HSC.out wq hSw); first | (go_simp; done) | (go_simp; with_reducible rfl) | with_reducible rfl
              go_simp
              refine wpAnyL_take (i := 7) (v := ?_) rfl (by kernel_rfl) (by kernel_rfl) (by kernel_rfl) (by kernel_rfl) (by kernel_rfl) (fun _ _ _ h => h) (Or.inl ⟨by rfl, ?_⟩) (by assumption) ?_
              rotate_left
              · intro wq hSw; (try dsimp only at hSw); (try obtain ⟨q0, q1⟩ := HSC.out wq hSw); first | (go_simp; done) | (go_simp; with_reducible rfl) | with_reducible rfl
              go_simp
              refine wpAnyL_take (i := 8) (v := ?_) rfl (by kernel_rfl) (by kernel_rfl) (by kernel_rfl) (by kernel_rfl) (by kernel_rfl) (fun _ _ _ h => h) (Or.inl ⟨by rfl, ?_⟩) (by assumption) ?_
              rotate_left
              · intro wq hSw; (try dsimp only at hSw); (try obtain ⟨q0, q1⟩ := HSC.out wq hSw); first | (go_simp; done) | (go_simp; with_reducible rfl) | with_reducible rfl
              go_simp
              refine wpAnyL_take (i := 9) (v := ?_) rfl (by kernel_rfl) (by kernel_rfl) (by kernel_rfl) (by kernel_rfl) (by kernel_rfl) (fun _ _ _ h => h) (Or.inl ⟨by rfl, ?_⟩) (by assumption) ?_
              rotate_left
              · intro wq hSw; (try dsimp only at hSw); (try obtain ⟨q0, q1⟩ := HSC.out wq hSw); first | (go_simp; done) | (go_simp; with_reducible rfl) | with_reducible rfl
              go_simp
              refine wpAnyL_take (i := 10) (v := ?_) rfl (by kernel_rfl) (by kernel_rfl) (by kernel_rfl) (by kernel_rfl) (by kernel_rfl) (fun _ _ _ h => h) (Or.inl ⟨by rfl, ?_⟩) (by assumption) ?_
              rotate_left
              · intro wq hSw; (try dsimp only at hSw); (try obtain ⟨q0, q1⟩ := HSC.out wq hSw); first | (go_simp; done) | (go_simp; with_reducible rfl) | with_reducible rfl
              go_simp
              refine wpAnyL_take (i := 11) (v := .slice (some ⟨ba, oa + k, none⟩) Kb (c - k)) rfl (by kernel_rfl) (by kernel_rfl) (by kernel_rfl) (by kernel_rfl) (by kernel_rfl) (fun _ _ _ h => h) (Or.inl ⟨by rfl, ?_⟩) (by assumption) ?_
              · intro wq hSw; (try dsimp only at hSw); (try obtain ⟨q0, q1⟩ := HSC.out wq hSw); first | (go_simp; done) | (go_simp; with_reducible rfl) | with_reducible rfl
              go_simp
              refine wpAnyL_ready (rs := [0]) (by kernel_rfl) (by simp) ?_
              refine (AllReadyL.cons rfl (fun K hK => ?_) AllReadyL.nil)
              obtain ⟨d0, d1⟩ := (HQ2.out.below HBv0.out).cells
              go_simp
              refine hK.out _ _ ?_ (fun hHeld => ?_)
              · (try dsimp only); exact HSO.out _ HBv0.out
              clear hK K
              clear d0 d1
              refine wpAnyL_ready (rs := [12]) (by kernel_rfl) (by simp) ?_
              refine (AllReadyL.cons rfl (fun K hK => ?_) AllReadyL.nil)
              go_simp
              go_wp2_with fail
              refine (HPU.out y0 (own_below HO2.out HBv0.out) (Nat.le_trans HBASE.out (HSO.out y0 HBv0.out).size) (HYP.out y0 (HSO.out y0 HBv0.out))).mono ?_
              rintro e y1 ⟨R4, ⟨a4, c4, rfl, ho', hbz⟩, ht'⟩
              have HBv1 := Lib.hid (kF hbz HBv0.out)
              have HO' := Lib.hid ho'
              have HT' := Lib.hid ht'
              clear ho' ht' hbz
              refine hK.out _ _ ?_ (fun hHeld => ?_)
              · (try dsimp only); exact HSO.out _ HBv1.out
              clear hK K
              refine wpAnyL_take (i := 13) (v := ?_) rfl (by kernel_rfl) (by kernel_rfl) (by kernel_rfl) (by kernel_rfl) (by kernel_rfl) (fun _ _ _ h => h) (Or.inl ⟨by rfl, ?_⟩) (by assumption) ?_
              rotate_left
              · intro wq hSw; (try dsimp only at hSw); (try obtain ⟨q0, q1⟩ := HSC.out wq hSw); first | (go_simp; done) | (go_simp; with_reducible rfl) | with_reducible rfl
              go_simp
              refine wpAnyL_take (i := 14) (v := ?_) rfl (by kernel_rfl) (by kernel_rfl) (by kernel_rfl) (by kernel_rfl) (by kernel_rfl) (fun _ _ _ h => h) (Or.inl ⟨by rfl, ?_⟩) (by assumption) ?_
              rotate_left
              · intro wq hSw; (try dsimp only at hSw); (try obtain ⟨q0, q1⟩ := HSC.out wq hSw); first | (go_simp; done) | (go_simp; with_reducible rfl) | with_reducible rfl
              go_simp
              refine wpAnyL_ready (rs := [15, 16]) (by kernel_rfl) (by simp) ?_
              refine (AllReadyL.cons rfl (fun K hK => ?_) (AllReadyL.cons rfl (fun K hK => ?_) AllReadyL.nil))
              · skip
                go_simp
                refine hK.out _ _ ?_ (fun hHeld => ?_)
                · (try dsimp only); exact HSO.out _ HBv1.out
                clear hK K
                refine wpAnyL_ready (rs := [16]) (by kernel_rfl) (by simp) ?_
                refine (AllReadyL.cons rfl (fun K hK => ?_) AllReadyL.nil)
                have HQv := Lib.hid (HQ2.out.below HBv1.out)
                obtain ⟨z0, z1⟩ := HQv.out.cells
                have fz0 := frozen_of_row _ _ 0 _ _ HQv.out
                have fz1 := frozen_of_row _ _ 1 _ _ HQv.out
                have HQ9 := Lib.hid (HQv.out.two (a' := a4) (n' := R4.length) (c' := c4) (ch' := cu4))
                have HX9 := Lib.hid ((HX2.out.below HBv1.out).put HGQ.out (.slice a4 R4.length c4) (.int .i64 cu4))
                have HN9 := Lib.hid (own_put2 HQv.out HO'.out (.slice a4 R4.length c4) (.int .i64 cu4))
                go_simp
                refine hK.out _ _ ?_ (fun hHeld => ?_)
                · (try dsimp only); exact HX9.out.blw
                clear hK K
                clear z0 z1 fz0 fz1 HQv
                generalize ((y1.setCell ⟨gq, 0, none⟩ (.slice a4 R4.length c4)).setCell ⟨gq, 1, none⟩ (.int .i64 cu4)) = y9 at *
                refine wpAnyL_done (by kernel_rfl) ?_ _
                clear hHeld
                go_wp2_with fail
                exact ⟨⟨i + 1, k + Kb, U4, R4, a4, c4, cu4, by omega, by go_num, by go_num, HKN, HF2, HUS, HX9, HQ9, HN9, HT', HC4⟩, by simp [intOf]; omega⟩
              · skip
                have HQv := Lib.hid (HQ2.out.below HBv1.out)
                obtain ⟨z0, z1⟩ := HQv.out.cells
                have fz0 := frozen_of_row _ _ 0 _ _ HQv.out
                have fz1 := frozen_of_row _ _ 1 _ _ HQv.out
                have HQ9 := Lib.hid (HQv.out.two (a' := a4) (n' := R4.length) (c' := c4) (ch' := cu4))
                have HX9 := Lib.hid ((HX2.out.below HBv1.out).put HGQ.out (.slice a4 R4.length c4) (.int .i64 cu4))
                have HN9 := Lib.hid (own_put2 HQv.out HO'.out (.slice a4 R4.length c4) (.int .i64 cu4))
                go_simp
                refine hK.out _ _ ?_ (fun hHeld => ?_)
                · (try dsimp only); exact HX9.out.blw
                clear hK K
                clear z0 z1 fz0 fz1 HQv
                generalize ((y1.setCell ⟨gq, 0, none⟩ (.slice a4 R4.length c4)).setCell ⟨gq, 1, none⟩ (.int .i64 cu4)) = y9 at *
                refine wpAnyL_ready (rs := [15]) (by kernel_rfl) (by simp) ?_
                refine (AllReadyL.cons rfl (fun K hK => ?_) AllReadyL.nil)
                go_simp
                refine hK.out _ _ ?_ (fun hHeld => ?_)
                · (try dsimp only); exact HX9.out.blw
                clear hK K
                refine wpAnyL_done (by kernel_rfl) ?_ _
                clear hHeld
                go_wp2_with fail
                exact ⟨⟨i + 1, k + Kb, U4, R4, a4, c4, cu4, by omega, by go_num, by go_num, HKN, HF2, HUS, HX9, HQ9, HN9, HT', HC4⟩, by simp [intOf]; omega⟩
            · have hfb : (FA != 0) = true := by simp [hf]
              have HV4 : Hid (unE T fs n l = 4) := Lib.hid (by rw [HUE.out, HFS.out, if_neg hf]; rfl)
              obtain ⟨d0, d1⟩ := HX2.out.box.cells
              obtain ⟨u0, u1⟩ := HX2.out.res.cells
              have fu0 := frozen_of_row _ _ 0 _ _ HX2.out.res
              have fu1 := frozen_of_row _ _ 1 _ _ HX2.out.res
              have HZ := Lib.hid (HX2.out.res.two (a' := some ⟨gr, 0, none⟩) (n' := N) (c' := cR) (ch' := ch))
              have HBB : Hid (Below w.heap.size w ((v2.setCell ⟨w.heap.size + 1, 0, none⟩ (.slice (some ⟨gr, 0, none⟩) N cR)).setCell ⟨w.heap.size + 1, 1, none⟩ (.int .i64 ch))) := Lib.hid (Below.setCell (p := ⟨w.heap.size + 1, 1, none⟩) (Below.setCell (p := ⟨w.heap.size + 1, 0, none⟩) HX2.out.blw (by simp) _) (by simp) _)
              go_wp2_with fail
              exact bodyPost_ret ((results_cell_tmp_row rfl _ _ (w.heap.size + 1) _ _ _ _ rfl HZ.out Try.underlying33 rfl info_dct).trans (by rfl)) rfl (HBAD.out 4 _ HV4.out (by decide) HBB.out)
          · exact absurd (HHS.out _ HHI.out hn) id
        · have HFT : Hid (fitF T fs l n 0 0 = true) := Lib.hid (by rw [HF.out, show n - i = 0 by omega]; rfl)
          have HUF : Hid (upT fs l n 0 0 T = U) := Lib.hid (by rw [HU.out, show n - i = 0 by omega]; rfl)
          have HEE := Lib.hid (HUT.out HFT.out)
          have HCE : Hid (0 ≤ cu ∧ cu ≤ ch + 8) := Lib.hid (by have := HCU.out; have := H8.out; omega)
          have HTF : Hid (TieD (unT T fs n l) R') := Lib.hid (by rw [HEE.out.1, HUF.out]; exact HTU.out)
          have HE0 : Hid (unE T fs n l = 0) := Lib.hid HEE.out.2
          obtain ⟨d0, d1⟩ := HQ.out.cells
          obtain ⟨u0, u1⟩ := HX.out.res.cells
          have fu0 := frozen_of_row _ _ 0 _ _ HX.out.res
          have fu1 := frozen_of_row _ _ 1 _ _ HX.out.res
          have HZ := Lib.hid (HX.out.res.two (a' := a') (n' := R'.length) (c' := c') (ch' := cu))
          have HOZ := Lib.hid (own_put2 HX.out.res HO.out (.slice a' R'.length c') (.int .i64 cu))
          have HBB := Lib.hid (Below.setCell (p := ⟨w.heap.size + 1, 1, none⟩) (Below.setCell (p := ⟨w.heap.size + 1, 0, none⟩) HX.out.blw (by simp) (.slice a' R'.length c')) (by simp) (.int .i64 cu))
          clear HF HU HX HQ HO
          go_wp2_with fail
          exact bodyPost_ret ((results_cell_tmp_row rfl _ _ (w.heap.size + 1) _ _ _ _ rfl HZ.out Try.underlying33 rfl info_dct).trans (by rfl)) rfl ⟨R', a', c', cu, by rw [HE0.out]; rfl, HOZ.out, HTF.out, HCE.out, HBB.out⟩
    · have HV : Hid (unE T fs n l = 11) := Lib.hid (by unfold unE; rw [if_neg (by rw [hz]; simp), if_pos hs])
      have hml := hB.len
      have hss : ((m : Int) != szE fs n) = true := by rw [← hml]; simp [hs]
      clear h ht hc hB hL hz hs hml hx0 hbase hfew HAT HCR HTH HHS HLT HBY
      generalize szE fs n = SE at *
      generalize R.length = N at *
      go_enter Try.func29, Try.ntmps29
      go_wp2_with fail
      generalize ((w.alloc (.cells #[.slice a N cR, .int .i64 ch] 33)).alloc (.cells #[.slice none 0 0, .int .i64 0] 33)) = w0 at *
      refine (HCK.out w0 HX0.out.blw).mono ?_
      rintro e w1 ⟨rfl, hb1⟩
      have HX1 := Lib.hid (HX0.out.below hb1)
      clear hb1 HCK d0 d1 u0 u1 fu0 fu1 HX0
      go_wp2_with fail
      refine (HSZ.out w1 HX1.out.blw).mono ?_
      rintro e w2 ⟨rfl, hb2⟩
      have HX2 := Lib.hid (HX1.out.below hb2)
      clear hb2 HSZ HX1
      obtain ⟨d0, d1⟩ := HX2.out.box.cells
      obtain ⟨u0, u1⟩ := HX2.out.res.cells
      have fu0 := frozen_of_row _ _ 0 _ _ HX2.out.res
      have fu1 := frozen_of_row _ _ 1 _ _ HX2.out.res
      have HZ := Lib.hid (HX2.out.res.two (a' := a) (n' := N) (c' := cR) (ch' := ch))
      have HBB : Hid (Below w.heap.size w ((w2.setCell ⟨w.heap.size + 1, 0, none⟩ (.slice a N cR)).setCell ⟨w.heap.size + 1, 1, none⟩ (.int .i64 ch))) := Lib.hid (Below.setCell (p := ⟨w.heap.size + 1, 1, none⟩) (Below.setCell (p := ⟨w.heap.size + 1, 0, none⟩) HX2.out.blw (by simp) _) (by simp) _)
      go_wp2_with fail
      exact bodyPost_ret ((results_cell_tmp_row rfl _ _ (w.heap.size + 1) _ _ _ _ rfl HZ.out Try.underlying33 rfl info_dct).trans (by rfl)) rfl (HBAD.out 11 _ HV.out (by decide) HBB.out)
  · have HV : Hid (unE T fs n l = 14) := Lib.hid (by unfold unE; rw [if_pos hz])
    have hzb : ¬ chkE (mapB T) fs n = 0 := hz
    clear h ht hc hB hL hx0 hbase hfew HAT HCR HTH HHS HLT HBY HSZ
    generalize chkE (mapB T) fs n = CE at *
    have e0 : (CE != 0) = true := by simp [hzb]
    generalize R.length = N at *
    go_enter Try.func29, Try.ntmps29
    go_wp2_with fail
    generalize ((w.alloc (.cells #[.slice a N cR, .int .i64 ch] 33)).alloc (.cells #[.slice none 0 0, .int .i64 0] 33)) = w0 at *
    refine (HCK.out w0 HX0.out.blw).mono ?_
    rintro e w1 ⟨rfl, hb1⟩
    have HX1 := Lib.hid (HX0.out.below hb1)
    clear hb1 HCK d0 d1 u0 u1 fu0 fu1 HX0
    obtain ⟨d0, d1⟩ := HX1.out.box.cells
    obtain ⟨u0, u1⟩ := HX1.out.res.cells
    have fu0 := frozen_of_row _ _ 0 _ _ HX1.out.res
    have fu1 := frozen_of_row _ _ 1 _ _ HX1.out.res
    have HZ := Lib.hid (HX1.out.res.two (a' := a) (n' := N) (c' := cR) (ch' := ch))
    have HBB : Hid (Below w.heap.size w ((w1.setCell ⟨w.heap.size + 1, 0, none⟩ (.slice a N cR)).setCell ⟨w.heap.size + 1, 1, none⟩ (.int .i64 ch))) := Lib.hid (Below.setCell (p := ⟨w.heap.size + 1, 1, none⟩) (Below.setCell (p := ⟨w.heap.size + 1, 0, none⟩) HX1.out.blw (by simp) _) (by simp) _)
    go_wp2_with fail
    exact bodyPost_ret ((results_cell_tmp_row rfl _ _ (w.heap.size + 1) _ _ _ _ rfl HZ.out Try.underlying33 rfl info_dct).trans (by rfl)) rfl (HBAD.out 14 _ HV.out (by decide) HBB.out)
end Go.Proofs.Ytgaoplbocjadaaa
