/- The document's Write. -/
import Derived.Test.YtmfjndkopkjchaaDz
namespace Go.Proofs.Ytmfjndkopkjchaa
open Go.RowKit
set_option linter.unusedSimpArgs false
set_option linter.unusedVariables false

theorem two_cell {w : World} {g o k : Nat} {a b : Value} (h : ¬ o = g) : ((w.setCell ⟨g, 0, none⟩ a).setCell ⟨g, 1, none⟩ b).cell? ⟨o, k, none⟩ = w.cell? ⟨o, k, none⟩ := by
  have e1 : ∀ (W : World) (p : Nat) (x : Value), (W.setCell ⟨g, p, none⟩ x).cell? ⟨o, k, none⟩ = W.cell? ⟨o, k, none⟩ := fun W p x => by
    unfold World.cell?
    rw [Below.heap_setCell W ⟨g, p, none⟩ x o h]
  rw [e1, e1]
def WriteP (w : World) (base : Nat) (R : List (Int × Ent)) (ch i q : Int) (l : List Int) (e : Ending) (w' : World) : Prop :=
  ((∀ y ∈ R, ¬ y.1 = q) ∧ (((∃ x ∈ R, x.1 / 256 = i) ∧ RefP w base R ch 101253137 e w') ∨ ((∀ y ∈ R, ¬ y.1 / 256 = i) ∧ RefP w base R ch 100794368 e w'))) ∨ ∃ (p : Nat) (x : Int × Ent), R[p]? = some x ∧ x.1 = q ∧ ((¬ writesI x.2.a = 0 ∧ RefP w base R ch (writesI x.2.a) e w') ∨ (writesI x.2.a = 0 ∧ ¬ fitsA x.2.k x.2.a x.2.lo x.2.hi l = 0 ∧ RefP w base R ch (fitsA x.2.k x.2.a x.2.lo x.2.hi l) e w') ∨ (writesI x.2.a = 0 ∧ fitsA x.2.k x.2.a x.2.lo x.2.hi l = 0 ∧ RefP w base (R.set p (x.1, ⟨x.2.k, x.2.a, x.2.lo, x.2.hi, l⟩)) (givC ch x.2 l) 0 e w'))
set_option maxRecDepth 100000 in
set_option maxHeartbeats 4000000 in
theorem drwrite_any (w : World) (base n c : Nat) (a : Option Addr) (R : List (Int × Ent)) (ch i j : Int) (B : Option Addr) (m k : Nat) (l : List Int) (h : w.ownsRow base 57 7 (.slice a n c) n (fr R)) (hnl : n = R.length) (hn : R.length ≤ 1000) (hbase : base ≤ w.heap.size) (hok : ∀ x ∈ R, okE x) (hc : 0 ≤ ch ∧ ch ≤ 1000000) (hB : Byt w w.heap.size B m k l) :
    Calls Try.prog 26 #[.agg #[.slice a n c, .int .i64 ch], .agg #[.int .i64 i, .int .i64 j], .slice B m k] w (WriteP w base R ch i (numI i j) l) := by
  have hb0 : Below w.heap.size w (((w.alloc (.cells #[.slice a n c, .int .i64 ch] 27)).alloc (.cells #[.int .i64 i, .int .i64 j] 31)).alloc (.cells #[.slice none 0 0, .int .i64 0] 27)) := (((Below.refl _ _).alloc (Nat.le_refl _) _).alloc (by simp) _).alloc (by simp; omega) _
  have hr0 : RBox (((w.alloc (.cells #[.slice a n c, .int .i64 ch] 27)).alloc (.cells #[.int .i64 i, .int .i64 j] 31)).alloc (.cells #[.slice none 0 0, .int .i64 0] 27)) w.heap.size a n c ch := (heap_alloc_old _ _ _ (by simp; omega)).trans (heap_alloc2_old w _ _)
  have hk0 : Key2 (((w.alloc (.cells #[.slice a n c, .int .i64 ch] 27)).alloc (.cells #[.int .i64 i, .int .i64 j] 31)).alloc (.cells #[.slice none 0 0, .int .i64 0] 27)) (w.heap.size + 1) i j := (heap_alloc_old _ _ _ (by simp)).trans (heap_alloc2_new w _ _)
  have hz0 : RBox (((w.alloc (.cells #[.slice a n c, .int .i64 ch] 27)).alloc (.cells #[.int .i64 i, .int .i64 j] 31)).alloc (.cells #[.slice none 0 0, .int .i64 0] 27)) (w.heap.size + 2) none 0 0 0 := by
    have h2 := heap_alloc_new ((w.alloc (.cells #[.slice a n c, .int .i64 ch] 27)).alloc (.cells #[.int .i64 i, .int .i64 j] 31)) (.cells #[.slice none 0 0, .int .i64 0] 27)
    rw [show ((w.alloc (.cells #[.slice a n c, .int .i64 ch] 27)).alloc (.cells #[.int .i64 i, .int .i64 j] 31)).heap.size = w.heap.size + 2 by simp] at h2
    exact h2
  have hsz0 : w.heap.size + 3 ≤ (((w.alloc (.cells #[.slice a n c, .int .i64 ch] 27)).alloc (.cells #[.int .i64 i, .int .i64 j] 31)).alloc (.cells #[.slice none 0 0, .int .i64 0] 27)).heap.size := by simp
  have HAT := Lib.hid (fun x (hx : Below w.heap.size w x) => rat_any x base n c a R ch i j (by rw [← hnl]; exact own_keep h hx) hnl hn (fun y hy => (hok y hy).1))
  have HMS := Lib.hid (fun x (hx : Below w.heap.size w x) => show Calls Try.prog 36 #[.agg #[.slice a n c, .int .i64 ch], .agg #[.int .i64 i, .int .i64 j]] x (fun e w' => ∃ code, e = .returned (.int .i64 code) ∧ Below x.heap.size x w' ∧ (((∃ y ∈ R, y.1 / 256 = i) ∧ code = 101253137) ∨ ((∀ y ∈ R, ¬ y.1 / 256 = i) ∧ code = 100794368))) from (rmis_any x base n c a R ch i j (by rw [← hnl]; exact own_keep h hx) hnl hn).mono fun e w' ⟨h1, h2⟩ => h2.elim (fun h => ⟨_, h.2, h1, .inl ⟨h.1, rfl⟩⟩) (fun h => ⟨_, h.2, h1, .inr ⟨h.1, rfl⟩⟩))
  have HC := Lib.hid (fun x (hx : Below w.heap.size w x) p y (hy : R[p]? = some y) => rowsR_at (own_keep h hx) hy)
  have HHO := Lib.hid (fun x (hx : Below w.heap.size w x) p y (hy : R[p]? = some y) => hold_any x base n c p a R ch y B m k l (own_keep h hx) hnl hn hy hc (hB.step hx) (hok y (List.mem_of_getElem? hy)).2.2.1)
  have HFT := Lib.hid (fun (x : World) (hx : Below w.heap.size w x) (y : Ent) => rfits_any y.k y.a y.lo y.hi x B m k l (hB.step hx))
  have HSM := Lib.hid (fun (code : Int) (w3 : World) (hz : RBox w3 (w.heap.size + 2) none 0 0 0) (hb : Below w.heap.size w w3) => RefP.same (ch := ch) (code := code) hnl h hz hb (by omega))
  have HHD := Lib.hid (fun (w1 w3 : World) (a' : Option Addr) (c' : Nat) (S : List (Int × Ent)) (C : Int) (hS : S.length = n) (h1 : w.heap.size ≤ w1.heap.size) (ho : w3.ownsRow w1.heap.size 57 7 (.slice a' n c') n (fr S)) (hz : RBox w3 (w.heap.size + 2) none 0 0 0) (hb : Below w.heap.size w w3) => RefP.of_hold (base := base) (ch := C) (code := 0) hS.symm ho hz hb (by omega) (by omega))
  have HLT := Lib.hid (fun (p : Nat) (y : Int × Ent) (hy : R[p]? = some y) => show p < n from by rw [hnl]; exact (List.getElem?_eq_some_iff.1 hy).1)
  have HSL := Lib.hid (fun (p : Nat) (y : Int × Ent) => show (R.set p y).length = n from by rw [List.length_set, hnl])
  have HB0 := Lib.hid hb0
  have HR0 := Lib.hid hr0
  have HK0 := Lib.hid hk0
  have HZ0 := Lib.hid hz0
  unfold WriteP
  obtain ⟨c0, c1⟩ := hk0.cells
  obtain ⟨d0, d1⟩ := hr0.cells
  clear h hok hB hb0 hr0 hk0 hz0 hnl hn hbase
  generalize numI i j = q at *
  go_enter Try.func26, Try.ntmps26
  go_wp2_with fail
  generalize (((w.alloc (.cells #[.slice a n c, .int .i64 ch] 27)).alloc (.cells #[.int .i64 i, .int .i64 j] 31)).alloc (.cells #[.slice none 0 0, .int .i64 0] 27)) = w0 at *
  refine (HAT.out w0 HB0.out).mono ?_
  rintro e w1 ⟨hb1, ⟨p, x, hx, hxq, -, rfl⟩ | ⟨hno, rfl⟩⟩
  · have HB1 := Lib.hid (kF hb1 HB0.out)
    have HR1 := Lib.hid (HR0.out.below hb1)
    have HK1 := Lib.hid (HK0.out.below hb1)
    have HZ1 := Lib.hid (HZ0.out.below hb1)
    obtain ⟨gr, ea, hg, hnc, hm, -, -, k2, k3, k4, k5, -⟩ := HC.out w1 HB1.out p x hx
    subst ea
    simp only [maxLen] at hm
    have hpn := HLT.out p x hx
    have hpI : (p : Int) < (n : Int) := by omega
    have hp0 : ¬ (p : Int) < 0 := by omega
    have HHX := Lib.hid (fun y (hy : Below w.heap.size w y) => HHO.out y hy p x hx)
    have HSX := Lib.hid (HSL.out p (x.1, ⟨x.2.k, x.2.a, x.2.lo, x.2.hi, l⟩))
    have HFX := Lib.hid (fun y (hy : Below w.heap.size w y) => HFT.out y hy x.2)
    have HP := Lib.hid (And.intro hx hxq)
    have HCX := Lib.hid (fun y (hy : Below w.heap.size w y) => show Cells7 y gr (p * 7) x from by obtain ⟨g', e', _, _, _, hk⟩ := HC.out y hy p x hx; cases e'; exact hk)
    clear hb1 hx hxq HMS HHO HFT HSL HAT HC c0 c1 d0 d1 hpn HLT
    obtain ⟨d0, d1⟩ := HR1.out.cells
    obtain ⟨c0, c1⟩ := HK1.out.cells
    obtain ⟨z0, z1⟩ := HZ1.out.cells
    have fz0 : w1.frozen? ⟨w.heap.size + 2, 0, none⟩ = false := frozen_of_row _ _ _ _ _ HZ1.out
    have fz1 : w1.frozen? ⟨w.heap.size + 2, 1, none⟩ = false := frozen_of_row _ _ _ _ _ HZ1.out
    go_wp2_with fail
    refine (rwrites_any x.2.a w1).mono ?_
    rintro e w2 ⟨rfl, hb2⟩
    have HB2 := Lib.hid (kF hb2 HB1.out)
    have HR2 := Lib.hid (HR1.out.below hb2)
    have HK2 := Lib.hid (HK1.out.below hb2)
    have HZ2 := Lib.hid (HZ1.out.below hb2)
    have hgl2 := hb2.size
    clear hb2 d0 d1 c0 c1 z0 z1 fz0 fz1 k2 k3 k4 k5
    obtain ⟨d0, d1⟩ := HR2.out.cells
    obtain ⟨c0, c1⟩ := HK2.out.cells
    obtain ⟨z0, z1⟩ := HZ2.out.cells
    have fz0 : w2.frozen? ⟨w.heap.size + 2, 0, none⟩ = false := frozen_of_row _ _ _ _ _ HZ2.out
    have fz1 : w2.frozen? ⟨w.heap.size + 2, 1, none⟩ = false := frozen_of_row _ _ _ _ _ HZ2.out
    obtain ⟨-, -, k2, k3, k4, k5, -⟩ := HCX.out w2 HB2.out
    by_cases hw : writesI x.2.a = 0
    · have HW := Lib.hid hw
      have t1 : (writesI x.2.a == 0) = true := by simp [hw]
      clear hw
      go_wp2_with fail
      refine (HFX.out w2 HB2.out).mono ?_
      rintro e w4 ⟨rfl, hb4⟩
      have HB4 := Lib.hid (kF hb4 HB2.out)
      have HR4 := Lib.hid (HR2.out.below hb4)
      have HK4 := Lib.hid (HK2.out.below hb4)
      have HZ4 := Lib.hid (HZ2.out.below hb4)
      clear hb4 d0 d1 c0 c1 z0 z1 fz0 fz1 k2 k3 k4 k5 hg
      obtain ⟨d0, d1⟩ := HR4.out.cells
      obtain ⟨c0, c1⟩ := HK4.out.cells
      obtain ⟨z0, z1⟩ := HZ4.out.cells
      have fz0 : w4.frozen? ⟨w.heap.size + 2, 0, none⟩ = false := frozen_of_row _ _ _ _ _ HZ4.out
      have fz1 : w4.frozen? ⟨w.heap.size + 2, 1, none⟩ = false := frozen_of_row _ _ _ _ _ HZ4.out
      by_cases hf : fitsA x.2.k x.2.a x.2.lo x.2.hi l = 0
      · have HF := Lib.hid hf
        have tf : (fitsA x.2.k x.2.a x.2.lo x.2.hi l != 0) = false := by simp [hf]
        clear hf
        go_wp2_with fail
        refine (HHX.out w4 HB4.out).mono ?_
        rintro e w3 ⟨a', c', he, ho, hb3⟩
        rw [HSX.out] at he ho
        subst he
        have HB3 := Lib.hid (kF hb3 HB4.out)
        have HZ3 := Lib.hid (HZ4.out.below hb3)
        have hrf := HHD.out w4 w3 a' c' (R.set p (x.1, ⟨x.2.k, x.2.a, x.2.lo, x.2.hi, l⟩)) (givC ch x.2 l) HSX.out HB4.out.size ho HZ3.out HB3.out
        have HRF := Lib.hid hrf
        clear hb3 ho hrf d0 d1 c0 c1 z0 z1 fz0 fz1
        obtain ⟨z0, z1⟩ := HZ3.out.cells
        have fz0 : w3.frozen? ⟨w.heap.size + 2, 0, none⟩ = false := frozen_of_row _ _ _ _ _ HZ3.out
        have fz1 : w3.frozen? ⟨w.heap.size + 2, 1, none⟩ = false := frozen_of_row _ _ _ _ _ HZ3.out
        go_wp2_with fail
        exact bodyPost_ret ((results_cell_tmp_row rfl _ _ (w.heap.size + 2) _ _ _ _ rfl HZ3.out.two Try.underlying27 rfl info_dct).trans (by rfl)) rfl (.inr ⟨p, x, HP.out.1, HP.out.2, .inr (.inr ⟨HW.out, HF.out, HRF.out⟩)⟩)
      · have HF := Lib.hid hf
        have tf : (fitsA x.2.k x.2.a x.2.lo x.2.hi l != 0) = true := by simp [hf]
        clear hf
        go_wp2_with fail
        exact bodyPost_ret ((results_cell_tmp_row rfl _ _ (w.heap.size + 2) _ _ _ _ rfl HZ4.out.two Try.underlying27 rfl info_dct).trans (by rfl)) rfl (.inr ⟨p, x, HP.out.1, HP.out.2, .inr (.inl ⟨HW.out, HF.out, HSM.out _ _ HZ4.out HB4.out⟩)⟩)
    · have HW := Lib.hid hw
      have t1 : (writesI x.2.a == 0) = false := by simp [hw]
      have t2 : (writesI x.2.a != 0) = true := by simp [hw]
      clear hw
      go_wp2_with fail
      exact bodyPost_ret ((results_cell_tmp_row rfl _ _ (w.heap.size + 2) _ _ _ _ rfl HZ2.out.two Try.underlying27 rfl info_dct).trans (by rfl)) rfl (.inr ⟨p, x, HP.out.1, HP.out.2, .inl ⟨HW.out, HSM.out _ _ HZ2.out HB2.out⟩⟩)
  · have HNO := Lib.hid hno
    have HB1 := Lib.hid (kF hb1 HB0.out)
    have HR1 := Lib.hid (HR0.out.below hb1)
    have HK1 := Lib.hid (HK0.out.below hb1)
    have HZ1 := Lib.hid (HZ0.out.below hb1)
    clear hb1 hno c0 c1 d0 d1
    obtain ⟨d0, d1⟩ := HR1.out.cells
    obtain ⟨c0, c1⟩ := HK1.out.cells
    obtain ⟨z0, z1⟩ := HZ1.out.cells
    have fz0 : w1.frozen? ⟨w.heap.size + 2, 0, none⟩ = false := frozen_of_row _ _ _ _ _ HZ1.out
    have fz1 : w1.frozen? ⟨w.heap.size + 2, 1, none⟩ = false := frozen_of_row _ _ _ _ _ HZ1.out
    clear z0 z1 fz0 fz1
    have hS : ∀ x, Below w1.heap.size w1 x → x.cell? ⟨w.heap.size, 0, none⟩ = some (.slice a n c) ∧ x.cell? ⟨w.heap.size, 1, none⟩ = some (.int .i64 ch) ∧ x.cell? ⟨w.heap.size + 1, 0, none⟩ = some (.int .i64 i) ∧ x.cell? ⟨w.heap.size + 1, 1, none⟩ = some (.int .i64 j) := fun x hx => ⟨(HR1.out.below hx).cells.1, (HR1.out.below hx).cells.2, (HK1.out.below hx).cells.1, (HK1.out.below hx).cells.2⟩
    have HS := Lib.hid hS
    clear hS HHO HFT HHD HSL HAT HC HLT
    go_wp2_with fail
    refine wp_region_last (fun w' => w'.cell? ⟨w.heap.size, 0, none⟩ = some (.slice a n c) ∧ w'.cell? ⟨w.heap.size, 1, none⟩ = some (.int .i64 ch) ∧ w'.cell? ⟨w.heap.size + 1, 0, none⟩ = some (.int .i64 i) ∧ w'.cell? ⟨w.heap.size + 1, 1, none⟩ = some (.int .i64 j)) 5 (by kernel_rfl) (HS.out _ (kD _)) (fun hHeld => ?_)
    refine wpAnyL_take (i := 0) (v := ?_) rfl (by kernel_rfl) (by kernel_rfl) (by kernel_rfl) (by kernel_rfl) (by kernel_rfl) (fun _ _ _ h => h) (Or.inl ⟨by rfl, ?_⟩) (by assumption) ?_
    rotate_left
    · intro wq hSw; (try dsimp only at hSw); first | (go_simp; done) | (go_simp; with_reducible rfl) | with_reducible rfl
    try simp only [Act.put, List.setIfInBounds_toArray, List.set_cons_zero, List.set_cons_succ]
    refine wpAnyL_take (i := 1) (v := ?_) rfl (by kernel_rfl) (by kernel_rfl) (by kernel_rfl) (by kernel_rfl) (by kernel_rfl) (fun _ _ _ h => h) (Or.inl ⟨by rfl, ?_⟩) (by assumption) ?_
    rotate_left
    · intro wq hSw; (try dsimp only at hSw); first | (go_simp; done) | (go_simp; with_reducible rfl) | with_reducible rfl
    try simp only [Act.put, List.setIfInBounds_toArray, List.set_cons_zero, List.set_cons_succ]
    refine wpAnyL_take (i := 2) (v := ?_) rfl (by kernel_rfl) (by kernel_rfl) (by kernel_rfl) (by kernel_rfl) (by kernel_rfl) (fun _ _ _ h => h) (Or.inl ⟨by rfl, ?_⟩) (by assumption) ?_
    rotate_left
    · intro wq hSw; (try dsimp only at hSw); first | (go_simp; done) | (go_simp; with_reducible rfl) | with_reducible rfl
    try simp only [Act.put, List.setIfInBounds_toArray, List.set_cons_zero, List.set_cons_succ]
    refine wpAnyL_ready (rs := [3]) (by kernel_rfl) (by simp) ?_
    refine (AllReadyL.cons rfl (fun K hK => ?_) AllReadyL.nil)
    go_simp
    go_wp2_with (go_at_call 36; refine (HMS.out _ (kF (kD w1) HB1.out)).mono ?_; rintro e w2 ⟨code, rfl, hb2, hcase⟩)
    have HB2 := Lib.hid (kF hb2 (kD w1))
    have HZ2 := Lib.hid (HZ1.out.below HB2.out)
    obtain ⟨z0, z1⟩ := HZ2.out.cells
    have fz0 : w2.frozen? ⟨w.heap.size + 2, 0, none⟩ = false := frozen_of_row _ _ _ _ _ HZ2.out
    have fz1 : w2.frozen? ⟨w.heap.size + 2, 1, none⟩ = false := frozen_of_row _ _ _ _ _ HZ2.out
    have HB3 := Lib.hid (kF HB2.out HB1.out)
    clear hb2
    rcases hcase with ⟨hyes, rfl⟩ | ⟨hnot, rfl⟩
    · have HY := Lib.hid hyes
      clear hyes
      refine hK.out _ _ ?_ (fun hHeld => ?_)
      · (try dsimp only); exact HS.out _ HB2.out
      clear hK K
      refine wpAnyL_ready (rs := [4]) (by kernel_rfl) (by simp) ?_
      refine (AllReadyL.cons rfl (fun K hK => ?_) AllReadyL.nil)
      go_simp
      refine hK.out _ _ ?_ (fun hHeld => ?_)
      · (try dsimp only); exact ⟨(two_cell (by omega)).trans (HS.out _ HB2.out).1, (two_cell (by omega)).trans (HS.out _ HB2.out).2.1, (two_cell (by omega)).trans (HS.out _ HB2.out).2.2.1, (two_cell (by omega)).trans (HS.out _ HB2.out).2.2.2⟩
      clear hK K
      refine wpAnyL_ready (rs := [5]) (by kernel_rfl) (by simp) ?_
      refine AllReadyL.last rfl (fun K hK => ?_)
      go_simp
      refine hK.out _ _ ?_
      clear hK K
      refine wpAnyL_done (by kernel_rfl) ?_ _
      clear hHeld
      go_wp2_with fail
      exact bodyPost_ret ((results_cell_tmp_row rfl _ _ (w.heap.size + 2) _ _ _ _ rfl HZ2.out.two Try.underlying27 rfl info_dct).trans (by rfl)) rfl (.inl ⟨HNO.out, .inl ⟨HY.out, HSM.out _ _ HZ2.out HB3.out⟩⟩)
    · have HY := Lib.hid hnot
      clear hnot
      refine hK.out _ _ ?_ (fun hHeld => ?_)
      · (try dsimp only); exact HS.out _ HB2.out
      clear hK K
      refine wpAnyL_ready (rs := [4]) (by kernel_rfl) (by simp) ?_
      refine (AllReadyL.cons rfl (fun K hK => ?_) AllReadyL.nil)
      go_simp
      refine hK.out _ _ ?_ (fun hHeld => ?_)
      · (try dsimp only); exact ⟨(two_cell (by omega)).trans (HS.out _ HB2.out).1, (two_cell (by omega)).trans (HS.out _ HB2.out).2.1, (two_cell (by omega)).trans (HS.out _ HB2.out).2.2.1, (two_cell (by omega)).trans (HS.out _ HB2.out).2.2.2⟩
      clear hK K
      refine wpAnyL_ready (rs := [5]) (by kernel_rfl) (by simp) ?_
      refine AllReadyL.last rfl (fun K hK => ?_)
      go_simp
      refine hK.out _ _ ?_
      clear hK K
      refine wpAnyL_done (by kernel_rfl) ?_ _
      clear hHeld
      go_wp2_with fail
      exact bodyPost_ret ((results_cell_tmp_row rfl _ _ (w.heap.size + 2) _ _ _ _ rfl HZ2.out.two Try.underlying27 rfl info_dct).trans (by rfl)) rfl (.inl ⟨HNO.out, .inr ⟨HY.out, HSM.out _ _ HZ2.out HB3.out⟩⟩)
end Go.Proofs.Ytmfjndkopkjchaa
