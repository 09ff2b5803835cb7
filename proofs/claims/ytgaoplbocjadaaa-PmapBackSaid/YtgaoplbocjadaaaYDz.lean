/- The document's Put. -/
import Derived.Test.YtgaoplbocjadaaaYDy
namespace Go.Proofs.Ytgaoplbocjadaaa
open Go.RowKit
set_option linter.unusedSimpArgs false
set_option linter.unusedVariables false
theorem own_two {w : World} {base e s n : Nat} {v : Value} {xs : List Value} (h : w.ownsRow base e s v n xs) {g : Nat} (hg : v.ownBlock ≠ some g) (u u' : Value) : ((w.setCell ⟨g, 0, none⟩ u).setCell ⟨g, 1, none⟩ u').ownsRow base e s v n xs :=
  ownsRow_setCell_other (ownsRow_setCell_other h (a := ⟨g, 0, none⟩) hg u) (a := ⟨g, 1, none⟩) hg u'
theorem own_ne {w w' : World} {base s n : Nat} {v : Value} {xs : List Value} (h : w.ownsRow base 77 s v n xs) {g n' c : Nat} {a : Option Addr} {ch : Int} (hr : RBox w g a n' c ch) : v.ownBlock ≠ some g := fun e => by
  rcases h.2 with ⟨rfl, _⟩ | ⟨b, cap, cur, rfl, _, hb, _⟩
  · cases e
  · cases e; rw [hr] at hb; cases hb
/-- What the document's dictionary has become, and the answer. -/
def RefP (w : World) (base : Nat) (R : List (Int × Ent)) (ch code : Int) (e : Ending) (w' : World) : Prop := ∃ a c, e = .returned (.tuple #[.agg #[.slice a R.length c, .int .i64 ch], .int .i64 code]) ∧ w'.ownsRow base 77 7 (.slice a R.length c) R.length (fr R) ∧ Below w.heap.size w w'
theorem RefP.of_hold {w w1 w3 : World} {base n c' g : Nat} {a' a2 : Option Addr} {n2 c2 : Nat} {ch2 : Int} {R : List (Int × Ent)} {ch code : Int} (hn : n = R.length) (ho : w3.ownsRow w1.heap.size 77 7 (.slice a' n c') n (fr R)) (hz : RBox w3 g a2 n2 c2 ch2) (hb : Below w.heap.size w w3) (hbase : base ≤ w1.heap.size) (hg : w.heap.size ≤ g) :
    RefP w base R ch code (.returned (.tuple #[.agg #[.slice a' n c', .int .i64 ch], .int .i64 code])) ((w3.setCell ⟨g, 0, none⟩ (.slice a' n c')).setCell ⟨g, 1, none⟩ (.int .i64 ch)) := by
  subst hn
  exact ⟨a', c', rfl, own_less (own_two ho (own_ne (w' := w3) ho hz) _ _) hbase, (hb.setCell (p := ⟨g, 0, none⟩) hg _).setCell (p := ⟨g, 1, none⟩) hg _⟩
theorem RefP.same {w w3 : World} {base n c g : Nat} {a a2 : Option Addr} {n2 c2 : Nat} {ch2 : Int} {R : List (Int × Ent)} {ch code : Int} (hn : n = R.length) (h : w.ownsRow base 77 7 (.slice a n c) n (fr R)) (hz : RBox w3 g a2 n2 c2 ch2) (hb : Below w.heap.size w w3) (hg : w.heap.size ≤ g) :
    RefP w base R ch code (.returned (.tuple #[.agg #[.slice a n c, .int .i64 ch], .int .i64 code])) ((w3.setCell ⟨g, 0, none⟩ (.slice a n c)).setCell ⟨g, 1, none⟩ (.int .i64 ch)) := by
  subst hn
  have h3 := own_keep h hb
  exact ⟨a, c, rfl, own_two h3 (own_ne (w' := w3) h3 hz) _ _, (hb.setCell (p := ⟨g, 0, none⟩) hg _).setCell (p := ⟨g, 1, none⟩) hg _⟩
def PutP (w : World) (base : Nat) (R : List (Int × Ent)) (ch q : Int) (l : List Int) (e : Ending) (w' : World) : Prop :=
  ((∀ y ∈ R, ¬ y.1 = q) ∧ RefP w base R ch 7 e w') ∨ ∃ (p : Nat) (x : Int × Ent), R[p]? = some x ∧ x.1 = q ∧ ((x.2.a = 4 ∧ RefP w base R ch 12 e w') ∨ (¬ x.2.a = 4 ∧ ¬ fitsA x.2.k x.2.a x.2.lo x.2.hi l = 0 ∧ RefP w base R ch 14 e w') ∨ (¬ x.2.a = 4 ∧ fitsA x.2.k x.2.a x.2.lo x.2.hi l = 0 ∧ RefP w base (R.set p (x.1, ⟨x.2.k, x.2.a, x.2.lo, x.2.hi, l⟩)) (givC ch x.2 l) 0 e w'))
set_option maxRecDepth 100000 in
set_option maxHeartbeats 4000000 in
theorem drput_any (w : World) (base n c : Nat) (a : Option Addr) (R : List (Int × Ent)) (ch i j : Int) (B : Option Addr) (m k : Nat) (l : List Int) (h : w.ownsRow base 77 7 (.slice a n c) n (fr R)) (hnl : n = R.length) (hn : R.length ≤ 1000) (hbase : base ≤ w.heap.size) (hok : ∀ x ∈ R, okE x) (hc : 0 ≤ ch ∧ ch ≤ 1000000) (hB : Byt w w.heap.size B m k l) :
    Calls Try.prog 68 #[.agg #[.slice a n c, .int .i64 ch], .agg #[.int .i64 i, .int .i64 j], .slice B m k] w (PutP w base R ch (numI i j) l) := by
  have hb0 : Below w.heap.size w (((w.alloc (.cells #[.slice a n c, .int .i64 ch] 33)).alloc (.cells #[.int .i64 i, .int .i64 j] 24)).alloc (.cells #[.slice none 0 0, .int .i64 0] 33)) := (((Below.refl _ _).alloc (Nat.le_refl _) _).alloc (by simp) _).alloc (by simp; omega) _
  have hr0 : RBox (((w.alloc (.cells #[.slice a n c, .int .i64 ch] 33)).alloc (.cells #[.int .i64 i, .int .i64 j] 24)).alloc (.cells #[.slice none 0 0, .int .i64 0] 33)) w.heap.size a n c ch := (heap_alloc_old _ _ _ (by simp; omega)).trans (heap_alloc2_old w _ _)
  have hk0 : Key2 (((w.alloc (.cells #[.slice a n c, .int .i64 ch] 33)).alloc (.cells #[.int .i64 i, .int .i64 j] 24)).alloc (.cells #[.slice none 0 0, .int .i64 0] 33)) (w.heap.size + 1) i j := (heap_alloc_old _ _ _ (by simp)).trans (heap_alloc2_new w _ _)
  have hz0 : RBox (((w.alloc (.cells #[.slice a n c, .int .i64 ch] 33)).alloc (.cells #[.int .i64 i, .int .i64 j] 24)).alloc (.cells #[.slice none 0 0, .int .i64 0] 33)) (w.heap.size + 2) none 0 0 0 := by
    have h2 := heap_alloc_new ((w.alloc (.cells #[.slice a n c, .int .i64 ch] 33)).alloc (.cells #[.int .i64 i, .int .i64 j] 24)) (.cells #[.slice none 0 0, .int .i64 0] 33)
    rw [show ((w.alloc (.cells #[.slice a n c, .int .i64 ch] 33)).alloc (.cells #[.int .i64 i, .int .i64 j] 24)).heap.size = w.heap.size + 2 by simp] at h2
    exact h2
  have hsz0 : w.heap.size + 3 ≤ (((w.alloc (.cells #[.slice a n c, .int .i64 ch] 33)).alloc (.cells #[.int .i64 i, .int .i64 j] 24)).alloc (.cells #[.slice none 0 0, .int .i64 0] 33)).heap.size := by simp
  have HAT := Lib.hid (fun x (hx : Below w.heap.size w x) => rat_any x base n c a R ch i j (by rw [← hnl]; exact own_keep h hx) hnl hn (fun y hy => (hok y hy).1))
  have HC := Lib.hid (fun x (hx : Below w.heap.size w x) p y (hy : R[p]? = some y) => rowsR_at (own_keep h hx) hy)
  have HHO := Lib.hid (fun x (hx : Below w.heap.size w x) p y (hy : R[p]? = some y) => hold_any x base n c p a R ch y B m k l (own_keep h hx) hnl hn hy hc (hB.step hx) (hok y (List.mem_of_getElem? hy)).2.2.1)
  have HFT := Lib.hid (fun (x : World) (hx : Below w.heap.size w x) (y : Ent) => rfits_any y.k y.a y.lo y.hi x B m k l (hB.step hx))
  have HSM := Lib.hid (fun (code : Int) (w3 : World) (hz : RBox w3 (w.heap.size + 2) none 0 0 0) (hb : Below w.heap.size w w3) => RefP.same (ch := ch) (code := code) hnl h hz hb (by omega))
  have HHD := Lib.hid (fun (w1 w3 : World) (a' : Option Addr) (c' : Nat) (S : List (Int × Ent)) (C : Int) (hS : S.length = n) (h1 : w.heap.size ≤ w1.heap.size) (ho : w3.ownsRow w1.heap.size 77 7 (.slice a' n c') n (fr S)) (hz : RBox w3 (w.heap.size + 2) none 0 0 0) (hb : Below w.heap.size w w3) => RefP.of_hold (base := base) (ch := C) (code := 0) hS.symm ho hz hb (by omega) (by omega))
  have HLT := Lib.hid (fun (p : Nat) (y : Int × Ent) (hy : R[p]? = some y) => show p < n from by rw [hnl]; exact (List.getElem?_eq_some_iff.1 hy).1)
  have HSL := Lib.hid (fun (p : Nat) (y : Int × Ent) => show (R.set p y).length = n from by rw [List.length_set, hnl])
  have HB0 := Lib.hid hb0
  have HR0 := Lib.hid hr0
  have HK0 := Lib.hid hk0
  have HZ0 := Lib.hid hz0
  unfold PutP
  obtain ⟨c0, c1⟩ := hk0.cells
  obtain ⟨d0, d1⟩ := hr0.cells
  clear h hok hB hb0 hr0 hk0 hz0 hnl hn hbase
  generalize numI i j = q at *
  go_enter Try.func68, Try.ntmps68
  go_wp2_with fail
  generalize (((w.alloc (.cells #[.slice a n c, .int .i64 ch] 33)).alloc (.cells #[.int .i64 i, .int .i64 j] 24)).alloc (.cells #[.slice none 0 0, .int .i64 0] 33)) = w0 at *
  refine (HAT.out w0 HB0.out).mono ?_
  rintro e w1 ⟨hb1, ⟨p, x, hx, hxq, -, rfl⟩ | ⟨hno, rfl⟩⟩
  · have HB1 := Lib.hid (kF hb1 HB0.out)
    have HR1 := Lib.hid (HR0.out.below hb1)
    have HK1 := Lib.hid (HK0.out.below hb1)
    have HZ1 := Lib.hid (HZ0.out.below hb1)
    obtain ⟨gr, ea, hg, hnc, hm, -, -, k2, k3, k4, k5, -⟩ := HC.out w1 HB1.out p x hx
    subst ea
    simp only [maxLen] at hm
    have hpn := HLT.out p x hx
    have hpI : (p : Int) < (n : Int) := by omega
    have hp0 : ¬ (p : Int) < 0 := by omega
    have HHX := Lib.hid (fun y (hy : Below w.heap.size w y) => HHO.out y hy p x hx)
    have HSX := Lib.hid (HSL.out p (x.1, ⟨x.2.k, x.2.a, x.2.lo, x.2.hi, l⟩))
    have HFX := Lib.hid (fun y (hy : Below w.heap.size w y) => HFT.out y hy x.2)
    have HP := Lib.hid (And.intro hx hxq)
    clear hb1 hx hxq HHO HFT HSL HAT HC c0 c1 d0 d1 hpn HLT
    obtain ⟨d0, d1⟩ := HR1.out.cells
    obtain ⟨c0, c1⟩ := HK1.out.cells
    obtain ⟨z0, z1⟩ := HZ1.out.cells
    have fz0 : w1.frozen? ⟨w.heap.size + 2, 0, none⟩ = false := frozen_of_row _ _ _ _ _ HZ1.out
    have fz1 : w1.frozen? ⟨w.heap.size + 2, 1, none⟩ = false := frozen_of_row _ _ _ _ _ HZ1.out
    by_cases h4 : x.2.a = 4
    · have H4 := Lib.hid h4
      go_wp2_with fail
      exact bodyPost_ret ((results_cell_tmp_row rfl _ _ (w.heap.size + 2) _ _ _ _ rfl HZ1.out.two Try.underlying33 rfl info_dct).trans (by rfl)) rfl (.inr ⟨p, x, HP.out.1, HP.out.2, .inl ⟨H4.out, HSM.out 12 w1 HZ1.out HB1.out⟩⟩)
    · have H4 := Lib.hid h4
      go_wp2_with fail
      refine (HFX.out w1 HB1.out).mono ?_
      rintro e w2 ⟨rfl, hb2⟩
      have HB2 := Lib.hid (kF hb2 HB1.out)
      have HR2 := Lib.hid (HR1.out.below hb2)
      have HK2 := Lib.hid (HK1.out.below hb2)
      have HZ2 := Lib.hid (HZ1.out.below hb2)
      clear hb2 d0 d1 c0 c1 z0 z1 fz0 fz1 k2 k3 k4 k5 hg
      obtain ⟨d0, d1⟩ := HR2.out.cells
      obtain ⟨c0, c1⟩ := HK2.out.cells
      obtain ⟨z0, z1⟩ := HZ2.out.cells
      have fz0 : w2.frozen? ⟨w.heap.size + 2, 0, none⟩ = false := frozen_of_row _ _ _ _ _ HZ2.out
      have fz1 : w2.frozen? ⟨w.heap.size + 2, 1, none⟩ = false := frozen_of_row _ _ _ _ _ HZ2.out
      by_cases hf : fitsA x.2.k x.2.a x.2.lo x.2.hi l = 0
      · have HF := Lib.hid hf
        have tf : (fitsA x.2.k x.2.a x.2.lo x.2.hi l != 0) = false := by simp [hf]
        clear hf
        go_wp2_with fail
        refine (HHX.out w2 HB2.out).mono ?_
        rintro e w3 ⟨a', c', he, ho, hb3⟩
        rw [HSX.out] at he ho
        subst he
        have HO3 := Lib.hid ho
        have HB3 := Lib.hid (kF hb3 HB2.out)
        have HZ3 := Lib.hid (HZ2.out.below hb3)
        have hrf := HHD.out w2 w3 a' c' (R.set p (x.1, ⟨x.2.k, x.2.a, x.2.lo, x.2.hi, l⟩)) (givC ch x.2 l) HSX.out HB2.out.size ho HZ3.out HB3.out
        have HRF := Lib.hid hrf
        clear hb3 ho hrf d0 d1 c0 c1 z0 z1 fz0 fz1
        obtain ⟨z0, z1⟩ := HZ3.out.cells
        have fz0 : w3.frozen? ⟨w.heap.size + 2, 0, none⟩ = false := frozen_of_row _ _ _ _ _ HZ3.out
        have fz1 : w3.frozen? ⟨w.heap.size + 2, 1, none⟩ = false := frozen_of_row _ _ _ _ _ HZ3.out
        go_wp2_with fail
        exact bodyPost_ret ((results_cell_tmp_row rfl _ _ (w.heap.size + 2) _ _ _ _ rfl HZ3.out.two Try.underlying33 rfl info_dct).trans (by rfl)) rfl (.inr ⟨p, x, HP.out.1, HP.out.2, .inr (.inr ⟨H4.out, HF.out, HRF.out⟩)⟩)
      · have HF := Lib.hid hf
        have tf : (fitsA x.2.k x.2.a x.2.lo x.2.hi l != 0) = true := by simp [hf]
        clear hf
        go_wp2_with fail
        exact bodyPost_ret ((results_cell_tmp_row rfl _ _ (w.heap.size + 2) _ _ _ _ rfl HZ2.out.two Try.underlying33 rfl info_dct).trans (by rfl)) rfl (.inr ⟨p, x, HP.out.1, HP.out.2, .inr (.inl ⟨H4.out, HF.out, HSM.out 14 w2 HZ2.out HB2.out⟩)⟩)
  · have HNO := Lib.hid hno
    have HB1 := Lib.hid (kF hb1 HB0.out)
    have HR1 := Lib.hid (HR0.out.below hb1)
    have HK1 := Lib.hid (HK0.out.below hb1)
    have HZ1 := Lib.hid (HZ0.out.below hb1)
    clear hb1 hno c0 c1 d0 d1
    obtain ⟨d0, d1⟩ := HR1.out.cells
    obtain ⟨c0, c1⟩ := HK1.out.cells
    obtain ⟨z0, z1⟩ := HZ1.out.cells
    have fz0 : w1.frozen? ⟨w.heap.size + 2, 0, none⟩ = false := frozen_of_row _ _ _ _ _ HZ1.out
    have fz1 : w1.frozen? ⟨w.heap.size + 2, 1, none⟩ = false := frozen_of_row _ _ _ _ _ HZ1.out
    go_wp2_with fail
    exact bodyPost_ret ((results_cell_tmp_row rfl _ _ (w.heap.size + 2) _ _ _ _ rfl HZ1.out.two Try.underlying33 rfl info_dct).trans (by rfl)) rfl (.inl ⟨HNO.out, HSM.out 7 w1 HZ1.out HB1.out⟩)
end Go.Proofs.Ytgaoplbocjadaaa