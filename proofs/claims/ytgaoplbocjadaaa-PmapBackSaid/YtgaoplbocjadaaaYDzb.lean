/- The document's Set. -/
import Derived.Test.YtgaoplbocjadaaaYDz
namespace Go.Proofs.Ytgaoplbocjadaaa
open Go.RowKit
set_option linter.unusedSimpArgs false
set_option linter.unusedVariables false
def SetP (w : World) (base : Nat) (R : List (Int × Ent)) (ch q m : Int) (e : Ending) (w' : World) : Prop :=
  ((∀ y ∈ R, ¬ y.1 = q) ∧ RefP w base R ch 7 e w') ∨ ∃ (p : Nat) (x : Int × Ent), R[p]? = some x ∧ x.1 = q ∧ ((x.2.a = 4 ∧ RefP w base R ch 12 e w') ∨ (¬ x.2.a = 4 ∧ x.2.k = 8 ∧ RefP w base R ch 2 e w') ∨ (¬ x.2.a = 4 ∧ ¬ x.2.k = 8 ∧ (m < x.2.lo ∨ x.2.hi < m) ∧ RefP w base R ch 14 e w') ∨ (¬ x.2.a = 4 ∧ ¬ x.2.k = 8 ∧ (x.2.lo ≤ m ∧ m ≤ x.2.hi) ∧ RefP w base (R.set p (x.1, ⟨x.2.k, x.2.a, x.2.lo, x.2.hi, putA x.2.k m⟩)) (givC ch x.2 (putA x.2.k m)) 0 e w'))
set_option maxRecDepth 100000 in
set_option maxHeartbeats 4000000 in
theorem drset_any (w : World) (base n c : Nat) (a : Option Addr) (R : List (Int × Ent)) (ch i j : Int) (m : Int) (h : w.ownsRow base 77 7 (.slice a n c) n (fr R)) (hnl : n = R.length) (hn : R.length ≤ 1000) (hbase : base ≤ w.heap.size) (hok : ∀ x ∈ R, okE x) (hc : 0 ≤ ch ∧ ch ≤ 1000000) :
    Calls Try.prog 33 #[.agg #[.slice a n c, .int .i64 ch], .agg #[.int .i64 i, .int .i64 j], .int .i64 m] w (SetP w base R ch (numI i j) m) := by
  have hb0 : Below w.heap.size w (((w.alloc (.cells #[.slice a n c, .int .i64 ch] 33)).alloc (.cells #[.int .i64 i, .int .i64 j] 24)).alloc (.cells #[.slice none 0 0, .int .i64 0] 33)) := (((Below.refl _ _).alloc (Nat.le_refl _) _).alloc (by simp) _).alloc (by simp; omega) _
  have hr0 : RBox (((w.alloc (.cells #[.slice a n c, .int .i64 ch] 33)).alloc (.cells #[.int .i64 i, .int .i64 j] 24)).alloc (.cells #[.slice none 0 0, .int .i64 0] 33)) w.heap.size a n c ch := (heap_alloc_old _ _ _ (by simp; omega)).trans (heap_alloc2_old w _ _)
  have hk0 : Key2 (((w.alloc (.cells #[.slice a n c, .int .i64 ch] 33)).alloc (.cells #[.int .i64 i, .int .i64 j] 24)).alloc (.cells #[.slice none 0 0, .int .i64 0] 33)) (w.heap.size + 1) i j := (heap_alloc_old _ _ _ (by simp)).trans (heap_alloc2_new w _ _)
  have hz0 : RBox (((w.alloc (.cells #[.slice a n c, .int .i64 ch] 33)).alloc (.cells #[.int .i64 i, .int .i64 j] 24)).alloc (.cells #[.slice none 0 0, .int .i64 0] 33)) (w.heap.size + 2) none 0 0 0 := by
    have h2 := heap_alloc_new ((w.alloc (.cells #[.slice a n c, .int .i64 ch] 33)).alloc (.cells #[.int .i64 i, .int .i64 j] 24)) (.cells #[.slice none 0 0, .int .i64 0] 33)
    rw [show ((w.alloc (.cells #[.slice a n c, .int .i64 ch] 33)).alloc (.cells #[.int .i64 i, .int .i64 j] 24)).heap.size = w.heap.size + 2 by simp] at h2
    exact h2
  have hsz0 : w.heap.size + 3 ≤ (((w.alloc (.cells #[.slice a n c, .int .i64 ch] 33)).alloc (.cells #[.int .i64 i, .int .i64 j] 24)).alloc (.cells #[.slice none 0 0, .int .i64 0] 33)).heap.size := by simp
  have HAT := Lib.hid (fun x (hx : Below w.heap.size w x) => rat_any x base n c a R ch i j (by rw [← hnl]; exact own_keep h hx) hnl hn (fun y hy => (hok y hy).1))
  have HC := Lib.hid (fun x (hx : Below w.heap.size w x) p y (hy : R[p]? = some y) => rowsR_at (own_keep h hx) hy)
  have HHO := Lib.hid (fun x (hx : Below w.heap.size w x) p y (hy : R[p]? = some y) B k (hB : Byt x x.heap.size B (putA y.2.k m).length k (putA y.2.k m)) => hold_any x base n c p a R ch y B _ k _ (own_keep h hx) hnl hn hy hc hB (hok y (List.mem_of_getElem? hy)).2.2.1)
  have HFT := Lib.hid (fun (x : World) (y : Ent) => show Calls Try.prog 80 #[.int .i64 y.k, .int .i64 m] x (PutPost y.k m x) from rput_any y.k m x)
  have HSM := Lib.hid (fun (code : Int) (w3 : World) (hz : RBox w3 (w.heap.size + 2) none 0 0 0) (hb : Below w.heap.size w w3) => RefP.same (ch := ch) (code := code) hnl h hz hb (by omega))
  have HHD := Lib.hid (fun (w1 w3 : World) (a' : Option Addr) (c' : Nat) (S : List (Int × Ent)) (C : Int) (hS : S.length = n) (h1 : w.heap.size ≤ w1.heap.size) (ho : w3.ownsRow w1.heap.size 77 7 (.slice a' n c') n (fr S)) (hz : RBox w3 (w.heap.size + 2) none 0 0 0) (hb : Below w.heap.size w w3) => RefP.of_hold (base := base) (ch := C) (code := 0) hS.symm ho hz hb (by omega) (by omega))
  have HLT := Lib.hid (fun (p : Nat) (y : Int × Ent) (hy : R[p]? = some y) => show p < n from by rw [hnl]; exact (List.getElem?_eq_some_iff.1 hy).1)
  have HSL := Lib.hid (fun (p : Nat) (y : Int × Ent) => show (R.set p y).length = n from by rw [List.length_set, hnl])
  have HB0 := Lib.hid hb0
  have HR0 := Lib.hid hr0
  have HK0 := Lib.hid hk0
  have HZ0 := Lib.hid hz0
  unfold SetP
  obtain ⟨c0, c1⟩ := hk0.cells
  obtain ⟨d0, d1⟩ := hr0.cells
  clear h hok hb0 hr0 hk0 hz0 hnl hn hbase
  generalize numI i j = q at *
  go_enter Try.func33, Try.ntmps33
  go_wp2_with fail
  generalize (((w.alloc (.cells #[.slice a n c, .int .i64 ch] 33)).alloc (.cells #[.int .i64 i, .int .i64 j] 24)).alloc (.cells #[.slice none 0 0, .int .i64 0] 33)) = w0 at *
  refine (HAT.out w0 HB0.out).mono ?_
  rintro e w1 ⟨hb1, ⟨p, x, hx, hxq, -, rfl⟩ | ⟨hno, rfl⟩⟩
  · have HB1 := Lib.hid (kF hb1 HB0.out)
    have HR1 := Lib.hid (HR0.out.below hb1)
    have HK1 := Lib.hid (HK0.out.below hb1)
    have HZ1 := Lib.hid (HZ0.out.below hb1)
    obtain ⟨gr, ea, hg, hnc, hm, -, -, k2, k3, k4, k5, -⟩ := HC.out w1 HB1.out p x hx
    subst ea
    simp only [maxLen] at hm
    have hpn := HLT.out p x hx
    have hpI : (p : Int) < (n : Int) := by omega
    have hp0 : ¬ (p : Int) < 0 := by omega
    have HHX := Lib.hid (fun y (hy : Below w.heap.size w y) => HHO.out y hy p x hx)
    have HSX := Lib.hid (HSL.out p (x.1, ⟨x.2.k, x.2.a, x.2.lo, x.2.hi, putA x.2.k m⟩))
    have hfx := fun y => HFT.out y x.2
    unfold PutPost at hfx
    have HFX := Lib.hid hfx
    have HP := Lib.hid (And.intro hx hxq)
    clear hb1 hx hxq hfx HHO HFT HSL HAT HC c0 c1 d0 d1 hpn HLT
    obtain ⟨d0, d1⟩ := HR1.out.cells
    obtain ⟨c0, c1⟩ := HK1.out.cells
    obtain ⟨z0, z1⟩ := HZ1.out.cells
    have fz0 : w1.frozen? ⟨w.heap.size + 2, 0, none⟩ = false := frozen_of_row _ _ _ _ _ HZ1.out
    have fz1 : w1.frozen? ⟨w.heap.size + 2, 1, none⟩ = false := frozen_of_row _ _ _ _ _ HZ1.out
    have hal : Below w1.heap.size w1 (w1.alloc (.cells #[.int .i64 x.2.k, .int .i64 x.2.a, .int .i64 x.2.lo, .int .i64 x.2.hi] 75)) := (Below.refl _ _).alloc (Nat.le_refl _) _
    have hsp : Spc (w1.alloc (.cells #[.int .i64 x.2.k, .int .i64 x.2.a, .int .i64 x.2.lo, .int .i64 x.2.hi] 75)) w1.heap.size x.2.k x.2.a x.2.lo x.2.hi := heap_alloc_new w1 _
    obtain ⟨s0, s1, s2, s3⟩ := hsp.cells
    have HB2 := Lib.hid (kF hal HB1.out)
    have HR2 := Lib.hid (HR1.out.below hal)
    have HZ2 := Lib.hid (HZ1.out.below hal)
    obtain ⟨r0, r1⟩ := HR2.out.cells
    obtain ⟨y0, y1⟩ := HZ2.out.cells
    have fy0 : (w1.alloc (.cells #[.int .i64 x.2.k, .int .i64 x.2.a, .int .i64 x.2.lo, .int .i64 x.2.hi] 75)).frozen? ⟨w.heap.size + 2, 0, none⟩ = false := frozen_of_row _ _ _ _ _ HZ2.out
    have fy1 : (w1.alloc (.cells #[.int .i64 x.2.k, .int .i64 x.2.a, .int .i64 x.2.lo, .int .i64 x.2.hi] 75)).frozen? ⟨w.heap.size + 2, 1, none⟩ = false := frozen_of_row _ _ _ _ _ HZ2.out
    clear hal hsp z0 z1 fz0 fz1
    by_cases h4 : x.2.a = 4
    · have H4 := Lib.hid h4
      have t4 : (x.2.a == 4) = true := by simp [h4]
      clear h4
      go_wp2_with fail
      exact bodyPost_ret ((results_cell_tmp_row rfl _ _ (w.heap.size + 2) _ _ _ _ rfl HZ2.out.two Try.underlying33 rfl info_dct).trans (by rfl)) rfl (.inr ⟨p, x, HP.out.1, HP.out.2, .inl ⟨H4.out, HSM.out 12 _ HZ2.out HB2.out⟩⟩)
    · have H4 := Lib.hid h4
      have t4 : (x.2.a == 4) = false := by simp [h4]
      clear h4
      by_cases h8 : x.2.k = 8
      · have H8 := Lib.hid h8
        have t8 : (x.2.k == 8) = true := by simp [h8]
        clear h8
        go_wp2_with fail
        exact bodyPost_ret ((results_cell_tmp_row rfl _ _ (w.heap.size + 2) _ _ _ _ rfl HZ2.out.two Try.underlying33 rfl info_dct).trans (by rfl)) rfl (.inr ⟨p, x, HP.out.1, HP.out.2, .inr (.inl ⟨H4.out, H8.out, HSM.out 2 _ HZ2.out HB2.out⟩)⟩)
      · have H8 := Lib.hid h8
        have t8 : (x.2.k == 8) = false := by simp [h8]
        clear h8
        by_cases hl : m < x.2.lo
        · have HL := Lib.hid hl
          go_wp2_with fail
          exact bodyPost_ret ((results_cell_tmp_row rfl _ _ (w.heap.size + 2) _ _ _ _ rfl HZ2.out.two Try.underlying33 rfl info_dct).trans (by rfl)) rfl (.inr ⟨p, x, HP.out.1, HP.out.2, .inr (.inr (.inl ⟨H4.out, H8.out, .inl HL.out, HSM.out 14 _ HZ2.out HB2.out⟩))⟩)
        · by_cases hh : x.2.hi < m
          · have HH := Lib.hid hh
            go_wp2_with fail
            exact bodyPost_ret ((results_cell_tmp_row rfl _ _ (w.heap.size + 2) _ _ _ _ rfl HZ2.out.two Try.underlying33 rfl info_dct).trans (by rfl)) rfl (.inr ⟨p, x, HP.out.1, HP.out.2, .inr (.inr (.inl ⟨H4.out, H8.out, .inr HH.out, HSM.out 14 _ HZ2.out HB2.out⟩))⟩)
          · have HLH := Lib.hid (show x.2.lo ≤ m ∧ m ≤ x.2.hi by omega)
            go_wp2_with fail
            refine (HFX.out _).mono ?_
            rintro e w4 ⟨A, cc, rfl, hy, hb4⟩
            have HB4 := Lib.hid (kF hb4 HB2.out)
            have HR4 := Lib.hid (HR2.out.below hb4)
            have HZ4 := Lib.hid (HZ2.out.below hb4)
            have hhx := HHX.out w4 HB4.out A cc hy
            have HHY := Lib.hid hhx
            generalize (putA x.2.k m).length = PL at *
            clear hb4 hy hhx d0 d1 c0 c1 r0 r1 y0 y1 fy0 fy1 s0 s1 s2 s3 hl hh
            obtain ⟨d0, d1⟩ := HR4.out.cells
            go_wp2_with fail
            refine HHY.out.mono ?_
            rintro e w3 ⟨a', c', he, ho, hb3⟩
            rw [HSX.out] at he ho
            subst he
            have HB3 := Lib.hid (kF hb3 HB4.out)
            have HZ3 := Lib.hid (HZ4.out.below hb3)
            have hrf := HHD.out w4 w3 a' c' (R.set p (x.1, ⟨x.2.k, x.2.a, x.2.lo, x.2.hi, putA x.2.k m⟩)) (givC ch x.2 (putA x.2.k m)) HSX.out HB4.out.size ho HZ3.out HB3.out
            have HRF := Lib.hid hrf
            clear hb3 ho hrf d0 d1
            obtain ⟨z0, z1⟩ := HZ3.out.cells
            have fz0 : w3.frozen? ⟨w.heap.size + 2, 0, none⟩ = false := frozen_of_row _ _ _ _ _ HZ3.out
            have fz1 : w3.frozen? ⟨w.heap.size + 2, 1, none⟩ = false := frozen_of_row _ _ _ _ _ HZ3.out
            go_wp2_with fail
            exact bodyPost_ret ((results_cell_tmp_row rfl _ _ (w.heap.size + 2) _ _ _ _ rfl HZ3.out.two Try.underlying33 rfl info_dct).trans (by rfl)) rfl (.inr ⟨p, x, HP.out.1, HP.out.2, .inr (.inr (.inr ⟨H4.out, H8.out, HLH.out, HRF.out⟩))⟩)
  · have HNO := Lib.hid hno
    have HB1 := Lib.hid (kF hb1 HB0.out)
    have HR1 := Lib.hid (HR0.out.below hb1)
    have HK1 := Lib.hid (HK0.out.below hb1)
    have HZ1 := Lib.hid (HZ0.out.below hb1)
    clear hb1 hno c0 c1 d0 d1
    obtain ⟨d0, d1⟩ := HR1.out.cells
    obtain ⟨c0, c1⟩ := HK1.out.cells
    obtain ⟨z0, z1⟩ := HZ1.out.cells
    have fz0 : w1.frozen? ⟨w.heap.size + 2, 0, none⟩ = false := frozen_of_row _ _ _ _ _ HZ1.out
    have fz1 : w1.frozen? ⟨w.heap.size + 2, 1, none⟩ = false := frozen_of_row _ _ _ _ _ HZ1.out
    go_wp2_with fail
    exact bodyPost_ret ((results_cell_tmp_row rfl _ _ (w.heap.size + 2) _ _ _ _ rfl HZ1.out.two Try.underlying33 rfl info_dct).trans (by rfl)) rfl (.inl ⟨HNO.out, HSM.out 7 w1 HZ1.out HB1.out⟩)
end Go.Proofs.Ytgaoplbocjadaaa
namespace Go.Proofs.Ytgaoplbocjadaaa
open Go.RowKit
set_option linter.unusedSimpArgs false
set_option linter.unusedVariables false
theorem two_cell {w : World} {g o k : Nat} {a b : Value} (h : ¬ o = g) : ((w.setCell ⟨g, 0, none⟩ a).setCell ⟨g, 1, none⟩ b).cell? ⟨o, k, none⟩ = w.cell? ⟨o, k, none⟩ := by
  have e1 : ∀ (W : World) (p : Nat) (x : Value), (W.setCell ⟨g, p, none⟩ x).cell? ⟨o, k, none⟩ = W.cell? ⟨o, k, none⟩ := fun W p x => by
    unfold World.cell?
    rw [Below.heap_setCell W ⟨g, p, none⟩ x o h]
  rw [e1, e1]
def WriteP (w : World) (base : Nat) (R : List (Int × Ent)) (ch i q : Int) (l : List Int) (e : Ending) (w' : World) : Prop :=
  ((∀ y ∈ R, ¬ y.1 = q) ∧ (((∃ x ∈ R, x.1 / 256 = i) ∧ RefP w base R ch 101253137 e w') ∨ ((∀ y ∈ R, ¬ y.1 / 256 = i) ∧ RefP w base R ch 100794368 e w'))) ∨ ∃ (p : Nat) (x : Int × Ent), R[p]? = some x ∧ x.1 = q ∧ ((¬ writesI x.2.a = 0 ∧ RefP w base R ch (writesI x.2.a) e w') ∨ (writesI x.2.a = 0 ∧ ¬ fitsA x.2.k x.2.a x.2.lo x.2.hi l = 0 ∧ RefP w base R ch (fitsA x.2.k x.2.a x.2.lo x.2.hi l) e w') ∨ (writesI x.2.a = 0 ∧ fitsA x.2.k x.2.a x.2.lo x.2.hi l = 0 ∧ RefP w base (R.set p (x.1, ⟨x.2.k, x.2.a, x.2.lo, x.2.hi, l⟩)) (givC ch x.2 l) 0 e w'))
end Go.Proofs.Ytgaoplbocjadaaa
