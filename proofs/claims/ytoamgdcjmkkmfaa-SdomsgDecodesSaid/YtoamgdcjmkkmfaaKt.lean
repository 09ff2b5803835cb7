/- What Abort answers; what live answers. -/
import Derived.Test.YtoamgdcjmkkmfaaKp
namespace Go.Proofs.Ytoamgdcjmkkmfaa
open Go.RowKit
set_option linter.unusedSimpArgs false
set_option linter.unusedVariables false
set_option maxHeartbeats 4000000

def quitM (ki ks a : Int) : Ms := ⟨14, if fitB 3 ki = true ∧ fitB 2 ks = true then ki else 0, if fitB 3 ki = true ∧ fitB 2 ks = true then ks else 0, false, false, false, false, 0, 0, 0, 0, 0, 0, 0, 0, 0, if fitB 4 a = true then a else 0, 0, 0, 0, 0⟩
theorem quitM_B (ki ks a : Int) : MsB (quitM ki ks a) := by
  intro x hx
  simp [quitM, Ms.d, dL] at hx
  omega
theorem abort_any (ki ks a : Int) (w : World) : Calls Try.prog 15 #[.agg #[.int .i64 ki, .int .i64 ks], .int .i64 a] w fun e w' => e = .returned (.agg (lnA (putM (quitM ki ks a)).1)) ∧ Below w.heap.size w w' := by
  have hk : ((w.alloc (.cells #[.int .i64 ki, .int .i64 ks] 26)).alloc (.cells #[.int .u8 0, .int .u8 0, .int .u8 0, .int .u8 0, .int .u8 0, .int .u8 0, .int .u8 0, .int .u8 0] 23)).heap[w.heap.size]? = some (.cells #[.int .i64 ki, .int .i64 ks] 26 (0, 0)) := (heap_alloc_old _ _ (by simp)).trans (heap_alloc_new w _)
  have hz : LnAt ((w.alloc (.cells #[.int .i64 ki, .int .i64 ks] 26)).alloc (.cells #[.int .u8 0, .int .u8 0, .int .u8 0, .int .u8 0, .int .u8 0, .int .u8 0, .int .u8 0, .int .u8 0] 23)) (w.heap.size + 1) [] := by have := ln_zero (w.alloc (.cells #[.int .i64 ki, .int .i64 ks] 26)); simpa using this
  have hb : Below w.heap.size w ((w.alloc (.cells #[.int .i64 ki, .int .i64 ks] 26)).alloc (.cells #[.int .u8 0, .int .u8 0, .int .u8 0, .int .u8 0, .int .u8 0, .int .u8 0, .int .u8 0, .int .u8 0] 23)) := ((Below.refl _ _).alloc (Nat.le_refl _) _).alloc (by simp) _
  have hs : ((w.alloc (.cells #[.int .i64 ki, .int .i64 ks] 26)).alloc (.cells #[.int .u8 0, .int .u8 0, .int .u8 0, .int .u8 0, .int .u8 0, .int .u8 0, .int .u8 0, .int .u8 0] 23)).heap.size = w.heap.size + 2 := by simp
  have hput := fun w => put_any' (quitM ki ks a) ⟨by simp [quitM], by simp [quitM]⟩ (quitM_B ki ks a) w
  generalize (putM (quitM ki ks a)) = p at hput
  obtain ⟨L, ok⟩ := p
  have hm : mAr (quitM ki ks a) = mAr ⟨14, if fitB 3 ki = true ∧ fitB 2 ks = true then ki else 0, if fitB 3 ki = true ∧ fitB 2 ks = true then ks else 0, false, false, false, false, 0, 0, 0, 0, 0, 0, 0, 0, 0, if fitB 4 a = true then a else 0, 0, 0, 0, 0⟩ := rfl
  rw [hm] at hput
  clear hm
  obtain ⟨F3, hF3⟩ : ∃ q, fitB 3 ki = q := ⟨_, rfl⟩
  obtain ⟨F2, hF2⟩ : ∃ q, fitB 2 ks = q := ⟨_, rfl⟩
  obtain ⟨F4, hF4⟩ : ∃ q, fitB 4 a = q := ⟨_, rfl⟩
  rw [hF3, hF2, hF4] at hput
  have hf3 := fun w => fits_any 3 ki w
  have hf2 := fun w => fits_any 2 ks w
  have hf4 := fun w => fits_any 4 a w
  rw [hF3] at hf3
  rw [hF2] at hf2
  rw [hF4] at hf4
  clear hF3 hF2 hF4
  have HK := Lib.hid hk
  have HZ := Lib.hid hz
  have HB := Lib.hid hb
  have HS := Lib.hid hs
  have HF3 := Lib.hid hf3
  have HF2 := Lib.hid hf2
  have HF4 := Lib.hid hf4
  have HPT := Lib.hid hput
  clear hk hz hb hs hf3 hf2 hf4 hput
  cases F3 <;> cases F2 <;> cases F4
  · go_enter Try.func15, Try.ntmps15
    go_wp2_with fail
    refine (HF3.out _).mono ?_
    rintro e w1 ⟨rfl, hb1⟩
    have HK1 := Lib.hid ((hb1.block w.heap.size (by rw [HS.out]; omega)).trans HK.out)
    have HZ1 := Lib.hid (HZ.out.below hb1 HZ.out.lt)
    have HB1 := Lib.hid (HB.out.trans (hb1.mono HB.out.size))
    have HS1 : Hid (w.heap.size + 2 ≤ w1.heap.size) := by have := hb1.size; rw [HS.out] at this; exact this
    have k1 : w1.cell? ⟨w.heap.size, 1, none⟩ = some (.int .i64 ks) := by rw [cell_of_row _ _ _ _ _ _ HK1.out]; rfl
    clear hb1 HK HZ HB HS
    go_wp2_with (refine wpList_store_row rfl 26 (.tmp 2) (.tmp 17) rfl w.heap.size #[.int .i64 0, .int .i64 0] rfl rfl _ _ HK1.out info_key rfl (one_two _ _) ?_)
    have HK3 := Lib.hid (setRow_heap _ w.heap.size _ #[.int .i64 0, .int .i64 0] _ _ HK1.out)
    have HZ3 := Lib.hid (show LnAt (_root_.Go.World.setRow _ w.heap.size #[.int .i64 0, .int .i64 0]) (w.heap.size + 1) [] from (setRow_other _ w.heap.size (w.heap.size + 1) #[.int .i64 0, .int .i64 0] (by omega)).trans HZ1.out)
    have HB3 := Lib.hid (below_setRow HB1.out (Nat.le_refl w.heap.size) #[.int .i64 0, .int .i64 0])
    have HS3 : Hid (w.heap.size + 2 ≤ (_root_.Go.World.setRow w1 w.heap.size #[.int .i64 0, .int .i64 0]).heap.size) := by rw [size_setRow]; exact HS1.out
    generalize (_root_.Go.World.setRow w1 w.heap.size #[.int .i64 0, .int .i64 0]) = w3 at *
    refine (HF4.out _).mono ?_
    rintro e w4 ⟨rfl, hb4⟩
    have HK4 := Lib.hid ((hb4.block w.heap.size (by have := HS3.out; omega)).trans HK3.out)
    have HZ4 := Lib.hid (HZ3.out.below hb4 HZ3.out.lt)
    have HB4 := Lib.hid (HB3.out.trans (hb4.mono HB3.out.size))
    have HS4 : Hid (w.heap.size + 2 ≤ w4.heap.size) := Nat.le_trans HS3.out hb4.size
    clear hb4
    go_wp2_with (refine wpList_load_row rfl 26 (.tmp 2) rfl w.heap.size rfl _ _ _ _ HK4.out Try.underlying26 rfl info_key ?_)
    refine (HPT.out _).mono ?_
    rintro e w5 ⟨rfl, hb5⟩
    have HZ5 := Lib.hid (LnAt.alloc (HZ4.out.below hb5 HZ4.out.lt) (.cells #[.int .u8 0, .int .u8 0, .int .u8 0, .int .u8 0, .int .u8 0, .int .u8 0, .int .u8 0, .int .u8 0] 23))
    have HN5 := Lib.hid (ln_zero w5)
    have HB5 := Lib.hid ((HB4.out.trans (hb5.mono HB4.out.size)).alloc (by have := HS4.out; have := hb5.size; omega) (.cells #[.int .u8 0, .int .u8 0, .int .u8 0, .int .u8 0, .int .u8 0, .int .u8 0, .int .u8 0, .int .u8 0] 23))
    have HS5 : Hid (w.heap.size + 2 ≤ w5.heap.size) := Nat.le_trans HS4.out hb5.size
    clear hb5
    go_wp2_with (first
      | (refine wpList_store_row rfl _ (.tmp 5) (.tmp 26) rfl w5.heap.size (lnA L) rfl rfl _ _ HN5.out info_line rfl (ln_one _) ?_)
      | (refine wpList_load_row rfl 23 (.tmp 5) rfl w5.heap.size rfl _ _ _ _ (setRow_heap _ _ _ (lnA L) _ _ HN5.out) Try.underlying23 rfl info_line ?_)
      | (refine wpList_store_row rfl _ (.tmp 4) (.tmp 28) rfl (w.heap.size + 1) (lnA L) rfl rfl _ _ ((setRow_other _ w5.heap.size _ (lnA L) (by have := HS5.out; omega)).trans HZ5.out) info_line rfl (ln_one _) ?_))
    exact bodyPost_ret (results_cell_row rfl _ _ (w.heap.size + 1) _ _ _ _ rfl (setRow_heap _ _ _ (lnA L) _ _ ((setRow_other _ w5.heap.size _ (lnA L) (by have := HS5.out; omega)).trans HZ5.out)) Try.underlying23 rfl info_line) rfl ⟨rfl, below_setRow (below_setRow HB5.out (by have := HS5.out; omega) _) (show w.heap.size ≤ w.heap.size + 1 by omega) _⟩
  · go_enter Try.func15, Try.ntmps15
    go_wp2_with fail
    refine (HF3.out _).mono ?_
    rintro e w1 ⟨rfl, hb1⟩
    have HK1 := Lib.hid ((hb1.block w.heap.size (by rw [HS.out]; omega)).trans HK.out)
    have HZ1 := Lib.hid (HZ.out.below hb1 HZ.out.lt)
    have HB1 := Lib.hid (HB.out.trans (hb1.mono HB.out.size))
    have HS1 : Hid (w.heap.size + 2 ≤ w1.heap.size) := by have := hb1.size; rw [HS.out] at this; exact this
    have k1 : w1.cell? ⟨w.heap.size, 1, none⟩ = some (.int .i64 ks) := by rw [cell_of_row _ _ _ _ _ _ HK1.out]; rfl
    clear hb1 HK HZ HB HS
    go_wp2_with (refine wpList_store_row rfl 26 (.tmp 2) (.tmp 17) rfl w.heap.size #[.int .i64 0, .int .i64 0] rfl rfl _ _ HK1.out info_key rfl (one_two _ _) ?_)
    have HK3 := Lib.hid (setRow_heap _ w.heap.size _ #[.int .i64 0, .int .i64 0] _ _ HK1.out)
    have HZ3 := Lib.hid (show LnAt (_root_.Go.World.setRow _ w.heap.size #[.int .i64 0, .int .i64 0]) (w.heap.size + 1) [] from (setRow_other _ w.heap.size (w.heap.size + 1) #[.int .i64 0, .int .i64 0] (by omega)).trans HZ1.out)
    have HB3 := Lib.hid (below_setRow HB1.out (Nat.le_refl w.heap.size) #[.int .i64 0, .int .i64 0])
    have HS3 : Hid (w.heap.size + 2 ≤ (_root_.Go.World.setRow w1 w.heap.size #[.int .i64 0, .int .i64 0]).heap.size) := by rw [size_setRow]; exact HS1.out
    generalize (_root_.Go.World.setRow w1 w.heap.size #[.int .i64 0, .int .i64 0]) = w3 at *
    refine (HF4.out _).mono ?_
    rintro e w4 ⟨rfl, hb4⟩
    have HK4 := Lib.hid ((hb4.block w.heap.size (by have := HS3.out; omega)).trans HK3.out)
    have HZ4 := Lib.hid (HZ3.out.below hb4 HZ3.out.lt)
    have HB4 := Lib.hid (HB3.out.trans (hb4.mono HB3.out.size))
    have HS4 : Hid (w.heap.size + 2 ≤ w4.heap.size) := Nat.le_trans HS3.out hb4.size
    clear hb4
    go_wp2_with (refine wpList_load_row rfl 26 (.tmp 2) rfl w.heap.size rfl _ _ _ _ HK4.out Try.underlying26 rfl info_key ?_)
    refine (HPT.out _).mono ?_
    rintro e w5 ⟨rfl, hb5⟩
    have HZ5 := Lib.hid (LnAt.alloc (HZ4.out.below hb5 HZ4.out.lt) (.cells #[.int .u8 0, .int .u8 0, .int .u8 0, .int .u8 0, .int .u8 0, .int .u8 0, .int .u8 0, .int .u8 0] 23))
    have HN5 := Lib.hid (ln_zero w5)
    have HB5 := Lib.hid ((HB4.out.trans (hb5.mono HB4.out.size)).alloc (by have := HS4.out; have := hb5.size; omega) (.cells #[.int .u8 0, .int .u8 0, .int .u8 0, .int .u8 0, .int .u8 0, .int .u8 0, .int .u8 0, .int .u8 0] 23))
    have HS5 : Hid (w.heap.size + 2 ≤ w5.heap.size) := Nat.le_trans HS4.out hb5.size
    clear hb5
    go_wp2_with (first
      | (refine wpList_store_row rfl _ (.tmp 5) (.tmp 26) rfl w5.heap.size (lnA L) rfl rfl _ _ HN5.out info_line rfl (ln_one _) ?_)
      | (refine wpList_load_row rfl 23 (.tmp 5) rfl w5.heap.size rfl _ _ _ _ (setRow_heap _ _ _ (lnA L) _ _ HN5.out) Try.underlying23 rfl info_line ?_)
      | (refine wpList_store_row rfl _ (.tmp 4) (.tmp 28) rfl (w.heap.size + 1) (lnA L) rfl rfl _ _ ((setRow_other _ w5.heap.size _ (lnA L) (by have := HS5.out; omega)).trans HZ5.out) info_line rfl (ln_one _) ?_))
    exact bodyPost_ret (results_cell_row rfl _ _ (w.heap.size + 1) _ _ _ _ rfl (setRow_heap _ _ _ (lnA L) _ _ ((setRow_other _ w5.heap.size _ (lnA L) (by have := HS5.out; omega)).trans HZ5.out)) Try.underlying23 rfl info_line) rfl ⟨rfl, below_setRow (below_setRow HB5.out (by have := HS5.out; omega) _) (show w.heap.size ≤ w.heap.size + 1 by omega) _⟩
  · go_enter Try.func15, Try.ntmps15
    go_wp2_with fail
    refine (HF3.out _).mono ?_
    rintro e w1 ⟨rfl, hb1⟩
    have HK1 := Lib.hid ((hb1.block w.heap.size (by rw [HS.out]; omega)).trans HK.out)
    have HZ1 := Lib.hid (HZ.out.below hb1 HZ.out.lt)
    have HB1 := Lib.hid (HB.out.trans (hb1.mono HB.out.size))
    have HS1 : Hid (w.heap.size + 2 ≤ w1.heap.size) := by have := hb1.size; rw [HS.out] at this; exact this
    have k1 : w1.cell? ⟨w.heap.size, 1, none⟩ = some (.int .i64 ks) := by rw [cell_of_row _ _ _ _ _ _ HK1.out]; rfl
    clear hb1 HK HZ HB HS
    go_wp2_with (refine wpList_store_row rfl 26 (.tmp 2) (.tmp 17) rfl w.heap.size #[.int .i64 0, .int .i64 0] rfl rfl _ _ HK1.out info_key rfl (one_two _ _) ?_)
    have HK3 := Lib.hid (setRow_heap _ w.heap.size _ #[.int .i64 0, .int .i64 0] _ _ HK1.out)
    have HZ3 := Lib.hid (show LnAt (_root_.Go.World.setRow _ w.heap.size #[.int .i64 0, .int .i64 0]) (w.heap.size + 1) [] from (setRow_other _ w.heap.size (w.heap.size + 1) #[.int .i64 0, .int .i64 0] (by omega)).trans HZ1.out)
    have HB3 := Lib.hid (below_setRow HB1.out (Nat.le_refl w.heap.size) #[.int .i64 0, .int .i64 0])
    have HS3 : Hid (w.heap.size + 2 ≤ (_root_.Go.World.setRow w1 w.heap.size #[.int .i64 0, .int .i64 0]).heap.size) := by rw [size_setRow]; exact HS1.out
    generalize (_root_.Go.World.setRow w1 w.heap.size #[.int .i64 0, .int .i64 0]) = w3 at *
    refine (HF4.out _).mono ?_
    rintro e w4 ⟨rfl, hb4⟩
    have HK4 := Lib.hid ((hb4.block w.heap.size (by have := HS3.out; omega)).trans HK3.out)
    have HZ4 := Lib.hid (HZ3.out.below hb4 HZ3.out.lt)
    have HB4 := Lib.hid (HB3.out.trans (hb4.mono HB3.out.size))
    have HS4 : Hid (w.heap.size + 2 ≤ w4.heap.size) := Nat.le_trans HS3.out hb4.size
    clear hb4
    go_wp2_with (refine wpList_load_row rfl 26 (.tmp 2) rfl w.heap.size rfl _ _ _ _ HK4.out Try.underlying26 rfl info_key ?_)
    refine (HPT.out _).mono ?_
    rintro e w5 ⟨rfl, hb5⟩
    have HZ5 := Lib.hid (LnAt.alloc (HZ4.out.below hb5 HZ4.out.lt) (.cells #[.int .u8 0, .int .u8 0, .int .u8 0, .int .u8 0, .int .u8 0, .int .u8 0, .int .u8 0, .int .u8 0] 23))
    have HN5 := Lib.hid (ln_zero w5)
    have HB5 := Lib.hid ((HB4.out.trans (hb5.mono HB4.out.size)).alloc (by have := HS4.out; have := hb5.size; omega) (.cells #[.int .u8 0, .int .u8 0, .int .u8 0, .int .u8 0, .int .u8 0, .int .u8 0, .int .u8 0, .int .u8 0] 23))
    have HS5 : Hid (w.heap.size + 2 ≤ w5.heap.size) := Nat.le_trans HS4.out hb5.size
    clear hb5
    go_wp2_with (first
      | (refine wpList_store_row rfl _ (.tmp 5) (.tmp 26) rfl w5.heap.size (lnA L) rfl rfl _ _ HN5.out info_line rfl (ln_one _) ?_)
      | (refine wpList_load_row rfl 23 (.tmp 5) rfl w5.heap.size rfl _ _ _ _ (setRow_heap _ _ _ (lnA L) _ _ HN5.out) Try.underlying23 rfl info_line ?_)
      | (refine wpList_store_row rfl _ (.tmp 4) (.tmp 28) rfl (w.heap.size + 1) (lnA L) rfl rfl _ _ ((setRow_other _ w5.heap.size _ (lnA L) (by have := HS5.out; omega)).trans HZ5.out) info_line rfl (ln_one _) ?_))
    exact bodyPost_ret (results_cell_row rfl _ _ (w.heap.size + 1) _ _ _ _ rfl (setRow_heap _ _ _ (lnA L) _ _ ((setRow_other _ w5.heap.size _ (lnA L) (by have := HS5.out; omega)).trans HZ5.out)) Try.underlying23 rfl info_line) rfl ⟨rfl, below_setRow (below_setRow HB5.out (by have := HS5.out; omega) _) (show w.heap.size ≤ w.heap.size + 1 by omega) _⟩
  · go_enter Try.func15, Try.ntmps15
    go_wp2_with fail
    refine (HF3.out _).mono ?_
    rintro e w1 ⟨rfl, hb1⟩
    have HK1 := Lib.hid ((hb1.block w.heap.size (by rw [HS.out]; omega)).trans HK.out)
    have HZ1 := Lib.hid (HZ.out.below hb1 HZ.out.lt)
    have HB1 := Lib.hid (HB.out.trans (hb1.mono HB.out.size))
    have HS1 : Hid (w.heap.size + 2 ≤ w1.heap.size) := by have := hb1.size; rw [HS.out] at this; exact this
    have k1 : w1.cell? ⟨w.heap.size, 1, none⟩ = some (.int .i64 ks) := by rw [cell_of_row _ _ _ _ _ _ HK1.out]; rfl
    clear hb1 HK HZ HB HS
    go_wp2_with (refine wpList_store_row rfl 26 (.tmp 2) (.tmp 17) rfl w.heap.size #[.int .i64 0, .int .i64 0] rfl rfl _ _ HK1.out info_key rfl (one_two _ _) ?_)
    have HK3 := Lib.hid (setRow_heap _ w.heap.size _ #[.int .i64 0, .int .i64 0] _ _ HK1.out)
    have HZ3 := Lib.hid (show LnAt (_root_.Go.World.setRow _ w.heap.size #[.int .i64 0, .int .i64 0]) (w.heap.size + 1) [] from (setRow_other _ w.heap.size (w.heap.size + 1) #[.int .i64 0, .int .i64 0] (by omega)).trans HZ1.out)
    have HB3 := Lib.hid (below_setRow HB1.out (Nat.le_refl w.heap.size) #[.int .i64 0, .int .i64 0])
    have HS3 : Hid (w.heap.size + 2 ≤ (_root_.Go.World.setRow w1 w.heap.size #[.int .i64 0, .int .i64 0]).heap.size) := by rw [size_setRow]; exact HS1.out
    generalize (_root_.Go.World.setRow w1 w.heap.size #[.int .i64 0, .int .i64 0]) = w3 at *
    refine (HF4.out _).mono ?_
    rintro e w4 ⟨rfl, hb4⟩
    have HK4 := Lib.hid ((hb4.block w.heap.size (by have := HS3.out; omega)).trans HK3.out)
    have HZ4 := Lib.hid (HZ3.out.below hb4 HZ3.out.lt)
    have HB4 := Lib.hid (HB3.out.trans (hb4.mono HB3.out.size))
    have HS4 : Hid (w.heap.size + 2 ≤ w4.heap.size) := Nat.le_trans HS3.out hb4.size
    clear hb4
    go_wp2_with (refine wpList_load_row rfl 26 (.tmp 2) rfl w.heap.size rfl _ _ _ _ HK4.out Try.underlying26 rfl info_key ?_)
    refine (HPT.out _).mono ?_
    rintro e w5 ⟨rfl, hb5⟩
    have HZ5 := Lib.hid (LnAt.alloc (HZ4.out.below hb5 HZ4.out.lt) (.cells #[.int .u8 0, .int .u8 0, .int .u8 0, .int .u8 0, .int .u8 0, .int .u8 0, .int .u8 0, .int .u8 0] 23))
    have HN5 := Lib.hid (ln_zero w5)
    have HB5 := Lib.hid ((HB4.out.trans (hb5.mono HB4.out.size)).alloc (by have := HS4.out; have := hb5.size; omega) (.cells #[.int .u8 0, .int .u8 0, .int .u8 0, .int .u8 0, .int .u8 0, .int .u8 0, .int .u8 0, .int .u8 0] 23))
    have HS5 : Hid (w.heap.size + 2 ≤ w5.heap.size) := Nat.le_trans HS4.out hb5.size
    clear hb5
    go_wp2_with (first
      | (refine wpList_store_row rfl _ (.tmp 5) (.tmp 26) rfl w5.heap.size (lnA L) rfl rfl _ _ HN5.out info_line rfl (ln_one _) ?_)
      | (refine wpList_load_row rfl 23 (.tmp 5) rfl w5.heap.size rfl _ _ _ _ (setRow_heap _ _ _ (lnA L) _ _ HN5.out) Try.underlying23 rfl info_line ?_)
      | (refine wpList_store_row rfl _ (.tmp 4) (.tmp 28) rfl (w.heap.size + 1) (lnA L) rfl rfl _ _ ((setRow_other _ w5.heap.size _ (lnA L) (by have := HS5.out; omega)).trans HZ5.out) info_line rfl (ln_one _) ?_))
    exact bodyPost_ret (results_cell_row rfl _ _ (w.heap.size + 1) _ _ _ _ rfl (setRow_heap _ _ _ (lnA L) _ _ ((setRow_other _ w5.heap.size _ (lnA L) (by have := HS5.out; omega)).trans HZ5.out)) Try.underlying23 rfl info_line) rfl ⟨rfl, below_setRow (below_setRow HB5.out (by have := HS5.out; omega) _) (show w.heap.size ≤ w.heap.size + 1 by omega) _⟩
  · go_enter Try.func15, Try.ntmps15
    go_wp2_with fail
    refine (HF3.out _).mono ?_
    rintro e w1 ⟨rfl, hb1⟩
    have HK1 := Lib.hid ((hb1.block w.heap.size (by rw [HS.out]; omega)).trans HK.out)
    have HZ1 := Lib.hid (HZ.out.below hb1 HZ.out.lt)
    have HB1 := Lib.hid (HB.out.trans (hb1.mono HB.out.size))
    have HS1 : Hid (w.heap.size + 2 ≤ w1.heap.size) := by have := hb1.size; rw [HS.out] at this; exact this
    have k1 : w1.cell? ⟨w.heap.size, 1, none⟩ = some (.int .i64 ks) := by rw [cell_of_row _ _ _ _ _ _ HK1.out]; rfl
    clear hb1 HK HZ HB HS
    go_wp2_with fail
    refine (HF2.out _).mono ?_
    rintro e w2 ⟨rfl, hb2⟩
    have HK2 := Lib.hid ((hb2.block w.heap.size (by have := HS1.out; omega)).trans HK1.out)
    have HZ2 := Lib.hid (HZ1.out.below hb2 HZ1.out.lt)
    have HB2 := Lib.hid (HB1.out.trans (hb2.mono HB1.out.size))
    have HS2 : Hid (w.heap.size + 2 ≤ w2.heap.size) := Nat.le_trans HS1.out hb2.size
    clear hb2 HK1 HZ1 HB1 HS1 k1
    go_wp2_with (refine wpList_store_row rfl 26 (.tmp 2) (.tmp 17) rfl w.heap.size #[.int .i64 0, .int .i64 0] rfl rfl _ _ HK2.out info_key rfl (one_two _ _) ?_)
    have HK3 := Lib.hid (setRow_heap _ w.heap.size _ #[.int .i64 0, .int .i64 0] _ _ HK2.out)
    have HZ3 := Lib.hid (show LnAt (_root_.Go.World.setRow _ w.heap.size #[.int .i64 0, .int .i64 0]) (w.heap.size + 1) [] from (setRow_other _ w.heap.size (w.heap.size + 1) #[.int .i64 0, .int .i64 0] (by omega)).trans HZ2.out)
    have HB3 := Lib.hid (below_setRow HB2.out (Nat.le_refl w.heap.size) #[.int .i64 0, .int .i64 0])
    have HS3 : Hid (w.heap.size + 2 ≤ (_root_.Go.World.setRow w2 w.heap.size #[.int .i64 0, .int .i64 0]).heap.size) := by rw [size_setRow]; exact HS2.out
    generalize (_root_.Go.World.setRow w2 w.heap.size #[.int .i64 0, .int .i64 0]) = w3 at *
    refine (HF4.out _).mono ?_
    rintro e w4 ⟨rfl, hb4⟩
    have HK4 := Lib.hid ((hb4.block w.heap.size (by have := HS3.out; omega)).trans HK3.out)
    have HZ4 := Lib.hid (HZ3.out.below hb4 HZ3.out.lt)
    have HB4 := Lib.hid (HB3.out.trans (hb4.mono HB3.out.size))
    have HS4 : Hid (w.heap.size + 2 ≤ w4.heap.size) := Nat.le_trans HS3.out hb4.size
    clear hb4
    go_wp2_with (refine wpList_load_row rfl 26 (.tmp 2) rfl w.heap.size rfl _ _ _ _ HK4.out Try.underlying26 rfl info_key ?_)
    refine (HPT.out _).mono ?_
    rintro e w5 ⟨rfl, hb5⟩
    have HZ5 := Lib.hid (LnAt.alloc (HZ4.out.below hb5 HZ4.out.lt) (.cells #[.int .u8 0, .int .u8 0, .int .u8 0, .int .u8 0, .int .u8 0, .int .u8 0, .int .u8 0, .int .u8 0] 23))
    have HN5 := Lib.hid (ln_zero w5)
    have HB5 := Lib.hid ((HB4.out.trans (hb5.mono HB4.out.size)).alloc (by have := HS4.out; have := hb5.size; omega) (.cells #[.int .u8 0, .int .u8 0, .int .u8 0, .int .u8 0, .int .u8 0, .int .u8 0, .int .u8 0, .int .u8 0] 23))
    have HS5 : Hid (w.heap.size + 2 ≤ w5.heap.size) := Nat.le_trans HS4.out hb5.size
    clear hb5
    go_wp2_with (first
      | (refine wpList_store_row rfl _ (.tmp 5) (.tmp 26) rfl w5.heap.size (lnA L) rfl rfl _ _ HN5.out info_line rfl (ln_one _) ?_)
      | (refine wpList_load_row rfl 23 (.tmp 5) rfl w5.heap.size rfl _ _ _ _ (setRow_heap _ _ _ (lnA L) _ _ HN5.out) Try.underlying23 rfl info_line ?_)
      | (refine wpList_store_row rfl _ (.tmp 4) (.tmp 28) rfl (w.heap.size + 1) (lnA L) rfl rfl _ _ ((setRow_other _ w5.heap.size _ (lnA L) (by have := HS5.out; omega)).trans HZ5.out) info_line rfl (ln_one _) ?_))
    exact bodyPost_ret (results_cell_row rfl _ _ (w.heap.size + 1) _ _ _ _ rfl (setRow_heap _ _ _ (lnA L) _ _ ((setRow_other _ w5.heap.size _ (lnA L) (by have := HS5.out; omega)).trans HZ5.out)) Try.underlying23 rfl info_line) rfl ⟨rfl, below_setRow (below_setRow HB5.out (by have := HS5.out; omega) _) (show w.heap.size ≤ w.heap.size + 1 by omega) _⟩
  · go_enter Try.func15, Try.ntmps15
    go_wp2_with fail
    refine (HF3.out _).mono ?_
    rintro e w1 ⟨rfl, hb1⟩
    have HK1 := Lib.hid ((hb1.block w.heap.size (by rw [HS.out]; omega)).trans HK.out)
    have HZ1 := Lib.hid (HZ.out.below hb1 HZ.out.lt)
    have HB1 := Lib.hid (HB.out.trans (hb1.mono HB.out.size))
    have HS1 : Hid (w.heap.size + 2 ≤ w1.heap.size) := by have := hb1.size; rw [HS.out] at this; exact this
    have k1 : w1.cell? ⟨w.heap.size, 1, none⟩ = some (.int .i64 ks) := by rw [cell_of_row _ _ _ _ _ _ HK1.out]; rfl
    clear hb1 HK HZ HB HS
    go_wp2_with fail
    refine (HF2.out _).mono ?_
    rintro e w2 ⟨rfl, hb2⟩
    have HK2 := Lib.hid ((hb2.block w.heap.size (by have := HS1.out; omega)).trans HK1.out)
    have HZ2 := Lib.hid (HZ1.out.below hb2 HZ1.out.lt)
    have HB2 := Lib.hid (HB1.out.trans (hb2.mono HB1.out.size))
    have HS2 : Hid (w.heap.size + 2 ≤ w2.heap.size) := Nat.le_trans HS1.out hb2.size
    clear hb2 HK1 HZ1 HB1 HS1 k1
    go_wp2_with (refine wpList_store_row rfl 26 (.tmp 2) (.tmp 17) rfl w.heap.size #[.int .i64 0, .int .i64 0] rfl rfl _ _ HK2.out info_key rfl (one_two _ _) ?_)
    have HK3 := Lib.hid (setRow_heap _ w.heap.size _ #[.int .i64 0, .int .i64 0] _ _ HK2.out)
    have HZ3 := Lib.hid (show LnAt (_root_.Go.World.setRow _ w.heap.size #[.int .i64 0, .int .i64 0]) (w.heap.size + 1) [] from (setRow_other _ w.heap.size (w.heap.size + 1) #[.int .i64 0, .int .i64 0] (by omega)).trans HZ2.out)
    have HB3 := Lib.hid (below_setRow HB2.out (Nat.le_refl w.heap.size) #[.int .i64 0, .int .i64 0])
    have HS3 : Hid (w.heap.size + 2 ≤ (_root_.Go.World.setRow w2 w.heap.size #[.int .i64 0, .int .i64 0]).heap.size) := by rw [size_setRow]; exact HS2.out
    generalize (_root_.Go.World.setRow w2 w.heap.size #[.int .i64 0, .int .i64 0]) = w3 at *
    refine (HF4.out _).mono ?_
    rintro e w4 ⟨rfl, hb4⟩
    have HK4 := Lib.hid ((hb4.block w.heap.size (by have := HS3.out; omega)).trans HK3.out)
    have HZ4 := Lib.hid (HZ3.out.below hb4 HZ3.out.lt)
    have HB4 := Lib.hid (HB3.out.trans (hb4.mono HB3.out.size))
    have HS4 : Hid (w.heap.size + 2 ≤ w4.heap.size) := Nat.le_trans HS3.out hb4.size
    clear hb4
    go_wp2_with (refine wpList_load_row rfl 26 (.tmp 2) rfl w.heap.size rfl _ _ _ _ HK4.out Try.underlying26 rfl info_key ?_)
    refine (HPT.out _).mono ?_
    rintro e w5 ⟨rfl, hb5⟩
    have HZ5 := Lib.hid (LnAt.alloc (HZ4.out.below hb5 HZ4.out.lt) (.cells #[.int .u8 0, .int .u8 0, .int .u8 0, .int .u8 0, .int .u8 0, .int .u8 0, .int .u8 0, .int .u8 0] 23))
    have HN5 := Lib.hid (ln_zero w5)
    have HB5 := Lib.hid ((HB4.out.trans (hb5.mono HB4.out.size)).alloc (by have := HS4.out; have := hb5.size; omega) (.cells #[.int .u8 0, .int .u8 0, .int .u8 0, .int .u8 0, .int .u8 0, .int .u8 0, .int .u8 0, .int .u8 0] 23))
    have HS5 : Hid (w.heap.size + 2 ≤ w5.heap.size) := Nat.le_trans HS4.out hb5.size
    clear hb5
    go_wp2_with (first
      | (refine wpList_store_row rfl _ (.tmp 5) (.tmp 26) rfl w5.heap.size (lnA L) rfl rfl _ _ HN5.out info_line rfl (ln_one _) ?_)
      | (refine wpList_load_row rfl 23 (.tmp 5) rfl w5.heap.size rfl _ _ _ _ (setRow_heap _ _ _ (lnA L) _ _ HN5.out) Try.underlying23 rfl info_line ?_)
      | (refine wpList_store_row rfl _ (.tmp 4) (.tmp 28) rfl (w.heap.size + 1) (lnA L) rfl rfl _ _ ((setRow_other _ w5.heap.size _ (lnA L) (by have := HS5.out; omega)).trans HZ5.out) info_line rfl (ln_one _) ?_))
    exact bodyPost_ret (results_cell_row rfl _ _ (w.heap.size + 1) _ _ _ _ rfl (setRow_heap _ _ _ (lnA L) _ _ ((setRow_other _ w5.heap.size _ (lnA L) (by have := HS5.out; omega)).trans HZ5.out)) Try.underlying23 rfl info_line) rfl ⟨rfl, below_setRow (below_setRow HB5.out (by have := HS5.out; omega) _) (show w.heap.size ≤ w.heap.size + 1 by omega) _⟩
  · go_enter Try.func15, Try.ntmps15
    go_wp2_with fail
    refine (HF3.out _).mono ?_
    rintro e w1 ⟨rfl, hb1⟩
    have HK1 := Lib.hid ((hb1.block w.heap.size (by rw [HS.out]; omega)).trans HK.out)
    have HZ1 := Lib.hid (HZ.out.below hb1 HZ.out.lt)
    have HB1 := Lib.hid (HB.out.trans (hb1.mono HB.out.size))
    have HS1 : Hid (w.heap.size + 2 ≤ w1.heap.size) := by have := hb1.size; rw [HS.out] at this; exact this
    have k1 : w1.cell? ⟨w.heap.size, 1, none⟩ = some (.int .i64 ks) := by rw [cell_of_row _ _ _ _ _ _ HK1.out]; rfl
    clear hb1 HK HZ HB HS
    go_wp2_with fail
    refine (HF2.out _).mono ?_
    rintro e w2 ⟨rfl, hb2⟩
    have HK2 := Lib.hid ((hb2.block w.heap.size (by have := HS1.out; omega)).trans HK1.out)
    have HZ2 := Lib.hid (HZ1.out.below hb2 HZ1.out.lt)
    have HB2 := Lib.hid (HB1.out.trans (hb2.mono HB1.out.size))
    have HS2 : Hid (w.heap.size + 2 ≤ w2.heap.size) := Nat.le_trans HS1.out hb2.size
    clear hb2 HK1 HZ1 HB1 HS1 k1
    go_wp2_with fail
    refine (HF4.out _).mono ?_
    rintro e w4 ⟨rfl, hb4⟩
    have HK4 := Lib.hid ((hb4.block w.heap.size (by have := HS2.out; omega)).trans HK2.out)
    have HZ4 := Lib.hid (HZ2.out.below hb4 HZ2.out.lt)
    have HB4 := Lib.hid (HB2.out.trans (hb4.mono HB2.out.size))
    have HS4 : Hid (w.heap.size + 2 ≤ w4.heap.size) := Nat.le_trans HS2.out hb4.size
    clear hb4
    go_wp2_with (refine wpList_load_row rfl 26 (.tmp 2) rfl w.heap.size rfl _ _ _ _ HK4.out Try.underlying26 rfl info_key ?_)
    refine (HPT.out _).mono ?_
    rintro e w5 ⟨rfl, hb5⟩
    have HZ5 := Lib.hid (LnAt.alloc (HZ4.out.below hb5 HZ4.out.lt) (.cells #[.int .u8 0, .int .u8 0, .int .u8 0, .int .u8 0, .int .u8 0, .int .u8 0, .int .u8 0, .int .u8 0] 23))
    have HN5 := Lib.hid (ln_zero w5)
    have HB5 := Lib.hid ((HB4.out.trans (hb5.mono HB4.out.size)).alloc (by have := HS4.out; have := hb5.size; omega) (.cells #[.int .u8 0, .int .u8 0, .int .u8 0, .int .u8 0, .int .u8 0, .int .u8 0, .int .u8 0, .int .u8 0] 23))
    have HS5 : Hid (w.heap.size + 2 ≤ w5.heap.size) := Nat.le_trans HS4.out hb5.size
    clear hb5
    go_wp2_with (first
      | (refine wpList_store_row rfl _ (.tmp 5) (.tmp 26) rfl w5.heap.size (lnA L) rfl rfl _ _ HN5.out info_line rfl (ln_one _) ?_)
      | (refine wpList_load_row rfl 23 (.tmp 5) rfl w5.heap.size rfl _ _ _ _ (setRow_heap _ _ _ (lnA L) _ _ HN5.out) Try.underlying23 rfl info_line ?_)
      | (refine wpList_store_row rfl _ (.tmp 4) (.tmp 28) rfl (w.heap.size + 1) (lnA L) rfl rfl _ _ ((setRow_other _ w5.heap.size _ (lnA L) (by have := HS5.out; omega)).trans HZ5.out) info_line rfl (ln_one _) ?_))
    exact bodyPost_ret (results_cell_row rfl _ _ (w.heap.size + 1) _ _ _ _ rfl (setRow_heap _ _ _ (lnA L) _ _ ((setRow_other _ w5.heap.size _ (lnA L) (by have := HS5.out; omega)).trans HZ5.out)) Try.underlying23 rfl info_line) rfl ⟨rfl, below_setRow (below_setRow HB5.out (by have := HS5.out; omega) _) (show w.heap.size ≤ w.heap.size + 1 by omega) _⟩
  · go_enter Try.func15, Try.ntmps15
    go_wp2_with fail
    refine (HF3.out _).mono ?_
    rintro e w1 ⟨rfl, hb1⟩
    have HK1 := Lib.hid ((hb1.block w.heap.size (by rw [HS.out]; omega)).trans HK.out)
    have HZ1 := Lib.hid (HZ.out.below hb1 HZ.out.lt)
    have HB1 := Lib.hid (HB.out.trans (hb1.mono HB.out.size))
    have HS1 : Hid (w.heap.size + 2 ≤ w1.heap.size) := by have := hb1.size; rw [HS.out] at this; exact this
    have k1 : w1.cell? ⟨w.heap.size, 1, none⟩ = some (.int .i64 ks) := by rw [cell_of_row _ _ _ _ _ _ HK1.out]; rfl
    clear hb1 HK HZ HB HS
    go_wp2_with fail
    refine (HF2.out _).mono ?_
    rintro e w2 ⟨rfl, hb2⟩
    have HK2 := Lib.hid ((hb2.block w.heap.size (by have := HS1.out; omega)).trans HK1.out)
    have HZ2 := Lib.hid (HZ1.out.below hb2 HZ1.out.lt)
    have HB2 := Lib.hid (HB1.out.trans (hb2.mono HB1.out.size))
    have HS2 : Hid (w.heap.size + 2 ≤ w2.heap.size) := Nat.le_trans HS1.out hb2.size
    clear hb2 HK1 HZ1 HB1 HS1 k1
    go_wp2_with fail
    refine (HF4.out _).mono ?_
    rintro e w4 ⟨rfl, hb4⟩
    have HK4 := Lib.hid ((hb4.block w.heap.size (by have := HS2.out; omega)).trans HK2.out)
    have HZ4 := Lib.hid (HZ2.out.below hb4 HZ2.out.lt)
    have HB4 := Lib.hid (HB2.out.trans (hb4.mono HB2.out.size))
    have HS4 : Hid (w.heap.size + 2 ≤ w4.heap.size) := Nat.le_trans HS2.out hb4.size
    clear hb4
    go_wp2_with (refine wpList_load_row rfl 26 (.tmp 2) rfl w.heap.size rfl _ _ _ _ HK4.out Try.underlying26 rfl info_key ?_)
    refine (HPT.out _).mono ?_
    rintro e w5 ⟨rfl, hb5⟩
    have HZ5 := Lib.hid (LnAt.alloc (HZ4.out.below hb5 HZ4.out.lt) (.cells #[.int .u8 0, .int .u8 0, .int .u8 0, .int .u8 0, .int .u8 0, .int .u8 0, .int .u8 0, .int .u8 0] 23))
    have HN5 := Lib.hid (ln_zero w5)
    have HB5 := Lib.hid ((HB4.out.trans (hb5.mono HB4.out.size)).alloc (by have := HS4.out; have := hb5.size; omega) (.cells #[.int .u8 0, .int .u8 0, .int .u8 0, .int .u8 0, .int .u8 0, .int .u8 0, .int .u8 0, .int .u8 0] 23))
    have HS5 : Hid (w.heap.size + 2 ≤ w5.heap.size) := Nat.le_trans HS4.out hb5.size
    clear hb5
    go_wp2_with (first
      | (refine wpList_store_row rfl _ (.tmp 5) (.tmp 26) rfl w5.heap.size (lnA L) rfl rfl _ _ HN5.out info_line rfl (ln_one _) ?_)
      | (refine wpList_load_row rfl 23 (.tmp 5) rfl w5.heap.size rfl _ _ _ _ (setRow_heap _ _ _ (lnA L) _ _ HN5.out) Try.underlying23 rfl info_line ?_)
      | (refine wpList_store_row rfl _ (.tmp 4) (.tmp 28) rfl (w.heap.size + 1) (lnA L) rfl rfl _ _ ((setRow_other _ w5.heap.size _ (lnA L) (by have := HS5.out; omega)).trans HZ5.out) info_line rfl (ln_one _) ?_))
    exact bodyPost_ret (results_cell_row rfl _ _ (w.heap.size + 1) _ _ _ _ rfl (setRow_heap _ _ _ (lnA L) _ _ ((setRow_other _ w5.heap.size _ (lnA L) (by have := HS5.out; omega)).trans HZ5.out)) Try.underlying23 rfl info_line) rfl ⟨rfl, below_setRow (below_setRow HB5.out (by have := HS5.out; omega) _) (show w.heap.size ≤ w.heap.size + 1 by omega) _⟩
end Go.Proofs.Ytoamgdcjmkkmfaa
