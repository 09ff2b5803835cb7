/- What live answers. -/
import Derived.Test.YtfccjekhdfpkoaaKt
namespace Go.Proofs.Ytfccjekhdfpkoaa
open Go.RowKit
set_option linter.unusedSimpArgs false
set_option linter.unusedVariables false
set_option maxHeartbeats 4000000

def lm0 : Ms := (⟨1, 8192, 1, false, false, true, false, 0, 1, 0, 0, 0, 0, 0, 0, 0, 0, 0, 0, 0, 0⟩ : Ms)
def lm1 : Ms := (⟨1, 8192, 1, false, false, true, false, 0, 1, 5, 0, 0, 0, 0, 0, 0, 0, 0, 0, 0, 0⟩ : Ms)
theorem live_enc : encM lm1 = ([47, 0, 32, 1, 5], 0) := by decide +kernel
theorem live_quit : putM (quitM 0 0 84082688) = ([128, 0, 0, 0, 0, 0, 3, 5], true) := by decide +kernel
theorem lm1_B : MsB lm1 := by
  intro x hx
  simp [lm1, Ms.d, dL] at hx
  omega
set_option maxRecDepth 20000 in
theorem live17_any (w : World) : Calls Try.prog 8 #[] w fun e w' => e = .returned (.bool true) ∧ Below w.heap.size w w' := by
  have hz : (w.alloc (.cells #[.int .i64 0, .int .i64 0, .int .i64 0, .bool false, .bool false, .bool false, .bool false, .int .i64 0, .int .i64 0, .int .u8 0, .int .u8 0, .int .u8 0, .int .u8 0, .int .u8 0, .int .u8 0, .int .u8 0, .int .i64 0, .int .i64 0, .int .i64 0, .int .i64 0, .int .i64 0] 28)).heap[w.heap.size]? = some (.cells (mAr ⟨0, 0, 0, false, false, false, false, 0, 0, 0, 0, 0, 0, 0, 0, 0, 0, 0, 0, 0, 0⟩) 28 (0, 0)) := heap_alloc_new w (.cells #[.int .i64 0, .int .i64 0, .int .i64 0, .bool false, .bool false, .bool false, .bool false, .int .i64 0, .int .i64 0, .int .u8 0, .int .u8 0, .int .u8 0, .int .u8 0, .int .u8 0, .int .u8 0, .int .u8 0, .int .i64 0, .int .i64 0, .int .i64 0, .int .i64 0, .int .i64 0] 28)
  have hm := setRow_heap _ w.heap.size _ (mAr lm0) _ _ hz
  have hm1 : ((_root_.Go.World.setRow (w.alloc (.cells #[.int .i64 0, .int .i64 0, .int .i64 0, .bool false, .bool false, .bool false, .bool false, .int .i64 0, .int .i64 0, .int .u8 0, .int .u8 0, .int .u8 0, .int .u8 0, .int .u8 0, .int .u8 0, .int .u8 0, .int .i64 0, .int .i64 0, .int .i64 0, .int .i64 0, .int .i64 0] 28)) w.heap.size (mAr lm0)).setCell ⟨w.heap.size, 9, none⟩ (.int .u8 5)).heap[w.heap.size]? = some (.cells (mAr lm1) 28 (0, 0)) := blk_set hm
  have hb1 : Below w.heap.size w ((_root_.Go.World.setRow (w.alloc (.cells #[.int .i64 0, .int .i64 0, .int .i64 0, .bool false, .bool false, .bool false, .bool false, .int .i64 0, .int .i64 0, .int .u8 0, .int .u8 0, .int .u8 0, .int .u8 0, .int .u8 0, .int .u8 0, .int .u8 0, .int .i64 0, .int .i64 0, .int .i64 0, .int .i64 0, .int .i64 0] 28)) w.heap.size (mAr lm0)).setCell ⟨w.heap.size, 9, none⟩ (.int .u8 5)) := (below_setRow ((Below.refl _ _).alloc (Nat.le_refl _) _) (Nat.le_refl _) _).setCell (p := ⟨w.heap.size, 9, none⟩) (Nat.le_refl _) _
  have hen := fun w => encode_any lm1 lm1_B w
  rw [live_enc] at hen
  have hab := fun w => abort_any 0 0 84082688 w
  rw [live_quit] at hab
  have hc1 := fun w => run_eqL [47, 0, 32, 1, 5] [47, 0, 32, 1, 5] w
  have hc2 := fun w => run_eqL [128, 0, 0, 0, 0, 0, 3, 5] [128, 0, 0, 0, 0, 0, 3, 5] w
  have k9 : (_root_.Go.World.setRow (w.alloc (.cells #[.int .i64 0, .int .i64 0, .int .i64 0, .bool false, .bool false, .bool false, .bool false, .int .i64 0, .int .i64 0, .int .u8 0, .int .u8 0, .int .u8 0, .int .u8 0, .int .u8 0, .int .u8 0, .int .u8 0, .int .i64 0, .int .i64 0, .int .i64 0, .int .i64 0, .int .i64 0] 28)) w.heap.size (mAr lm0)).cell? ⟨w.heap.size, 9, none⟩ = some (.int .u8 0) := by rw [cell_of_row _ _ _ _ _ _ hm]; rfl
  have f9 : (_root_.Go.World.setRow (w.alloc (.cells #[.int .i64 0, .int .i64 0, .int .i64 0, .bool false, .bool false, .bool false, .bool false, .int .i64 0, .int .i64 0, .int .u8 0, .int .u8 0, .int .u8 0, .int .u8 0, .int .u8 0, .int .u8 0, .int .u8 0, .int .i64 0, .int .i64 0, .int .i64 0, .int .i64 0, .int .i64 0] 28)) w.heap.size (mAr lm0)).frozen? ⟨w.heap.size, 9, none⟩ = false := frozen_of_row _ _ _ _ _ hm
  have HZ := Lib.hid hz
  have HM1 := Lib.hid hm1
  have HB1 := Lib.hid hb1
  have HEN := Lib.hid hen
  have HAB := Lib.hid hab
  have HC1 := Lib.hid hc1
  have HC2 := Lib.hid hc2
  clear hz hm hm1 hb1 hen hab hc1 hc2
  go_enter Try.func8, Try.ntmps8
  go_wp2_with (first
    | (refine wpList_store_row rfl 28 (.tmp 1) (.tmp 5) rfl w.heap.size (mAr lm0) rfl rfl _ _ HZ.out info_msg rfl (mAr_one _) ?_)
    | (refine wpList_load_row rfl 28 (.tmp 1) rfl w.heap.size rfl _ _ _ _ HM1.out Try.underlying28 rfl info_msg ?_))
  refine (HEN.out _).mono ?_
  rintro e w1 ⟨rfl, hb2⟩
  have HN1 := Lib.hid (ln_zero w1)
  have HB2 := Lib.hid (below_setRow ((HB1.out.trans (hb2.mono HB1.out.size)).alloc (Nat.le_trans HB1.out.size hb2.size) (.cells #[.int .u8 0, .int .u8 0, .int .u8 0, .int .u8 0, .int .u8 0, .int .u8 0, .int .u8 0, .int .u8 0] 30)) (show w.heap.size ≤ w1.heap.size from Nat.le_trans HB1.out.size hb2.size) (lnA [47, 0, 32, 1, 5]))
  clear hb2 k9 f9
  have hc1 : ∀ w : World, (Op.equalIn 10000 30 (.agg (lnA [47, 0, 32, 1, 5])) (.agg #[.int .u8 47, .int .u8 0, .int .u8 32, .int .u8 1, .int .u8 5, .int .u8 0, .int .u8 0, .int .u8 0])).run Try.prog w = .ok true w := HC1.out
  have hc2 : ∀ w : World, (Op.equalIn 10000 30 (.agg (lnA [128, 0, 0, 0, 0, 0, 3, 5])) (.agg #[.int .u8 128, .int .u8 0, .int .u8 0, .int .u8 0, .int .u8 0, .int .u8 0, .int .u8 3, .int .u8 5])).run Try.prog w = .ok true w := HC2.out
  go_wp2_with (first
    | (refine wpList_store_row rfl 30 (.tmp 2) (.tmp 11) rfl w1.heap.size (lnA [47, 0, 32, 1, 5]) rfl rfl _ _ HN1.out info_line rfl (ln_one _) ?_)
    | (refine wpList_step (fun K hK => Eq.mpr (if_pos (by kernel_rfl)) (wp_load_row 30 (.tmp 2) rfl w1.heap.size rfl _ _ _ _ (setRow_heap _ _ _ (lnA [47, 0, 32, 1, 5]) _ _ HN1.out) Try.underlying30 rfl info_line (hK _ _ ?_))))
    | (go_at_call 13; refine (HAB.out _).mono ?_; rintro e w2 ⟨rfl, hb3⟩))
  go_ret
  exact ⟨rfl, HB2.out.trans (hb3.mono HB2.out.size)⟩
end Go.Proofs.Ytfccjekhdfpkoaa
