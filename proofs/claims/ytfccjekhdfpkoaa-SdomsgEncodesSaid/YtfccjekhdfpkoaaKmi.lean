/- SdomsgEncodes: the walk. -/
import Derived.Test.YtfccjekhdfpkoaaKmh
import Derived.Test.YtfccjekhdfpkoaaKv
import Derived.Test.YtfccjekhdfpkoaaKu
import Derived.Deep.CutBlock
namespace Go.Proofs.Ytfccjekhdfpkoaa
open Go.RowKit
set_option linter.unusedSimpArgs false
set_option linter.unusedVariables false
set_option maxHeartbeats 4000000

set_option maxRecDepth 8000 in
theorem encodes_walk (m : Ms) (w : World) (hd : MsB m) :
    Calls Try.prog 3 #[.agg (mAr m)] w fun e w' => e = .returned (.bool true) ∧ Below w.heap.size w w' := by
  have hm0 : (w.alloc (.cells (mAr m) 28)).heap[w.heap.size]? = some (.cells (mAr m) 28 (0, 0)) := heap_alloc_new w _
  have hb0 : Below w.heap.size w (w.alloc (.cells (mAr m) 28)) := (Below.refl _ _).alloc (Nat.le_refl _) _
  have hs0 : (w.alloc (.cells (mAr m) 28)).heap.size = w.heap.size + 1 := by simp
  have hen := fun w => encode_any m hd w
  have hre := fun w => renc_any m w
  unfold EncP at hre
  generalize encM m = E at hen hre
  obtain ⟨L, er⟩ := E
  simp only at hen hre
  have hcl : ∀ w : World, (Op.equalIn 10000 30 (.agg (lnA L)) (.agg (lnA L))).run Try.prog w = .ok true w := fun w => by
    have := run_eqL L L w
    rw [eqL_refl] at this
    exact this
  have her : (er == er) = true := by simp
  have HM0 := Lib.hid hm0
  have HB0 := Lib.hid hb0
  have HS0 := Lib.hid hs0
  have HEN := Lib.hid hen
  have HRE := Lib.hid hre
  clear hm0 hb0 hs0 hen hre hd
  go_enter Try.func3, Try.ntmps3
  go_wp2_with (refine wpList_load_row rfl 28 (.tmp 1) rfl w.heap.size rfl _ _ _ _ HM0.out Try.underlying28 rfl info_msg ?_)
  refine (HEN.out _).mono ?_
  rintro e w1 ⟨rfl, hb1⟩
  have hs1 : w.heap.size + 1 ≤ w1.heap.size := by have := hb1.size; rw [HS0.out] at this; exact this
  have HZ1 := Lib.hid (ln_zero w1)
  have HM1 := Lib.hid ((setRow_other (w1.alloc (.cells #[.int .u8 0, .int .u8 0, .int .u8 0, .int .u8 0, .int .u8 0, .int .u8 0, .int .u8 0, .int .u8 0] 30)) w1.heap.size w.heap.size (lnA L) (by omega)).trans ((heap_alloc_old w1 _ (by omega)).trans ((hb1.block w.heap.size (by rw [HS0.out]; omega)).trans HM0.out)))
  have HN1 := Lib.hid (show LnAt (_root_.Go.World.setRow (w1.alloc (.cells #[.int .u8 0, .int .u8 0, .int .u8 0, .int .u8 0, .int .u8 0, .int .u8 0, .int .u8 0, .int .u8 0] 30)) w1.heap.size (lnA L)) w1.heap.size L from setRow_heap _ _ _ (lnA L) _ _ HZ1.out)
  have HB1 := Lib.hid (below_setRow ((HB0.out.trans (hb1.mono HB0.out.size)).alloc (Nat.le_trans HB0.out.size hb1.size) (.cells #[.int .u8 0, .int .u8 0, .int .u8 0, .int .u8 0, .int .u8 0, .int .u8 0, .int .u8 0, .int .u8 0] 30)) (show w.heap.size ≤ w1.heap.size by omega) (lnA L))
  have HG1 : Hid (w.heap.size + 1 ≤ w1.heap.size ∧ w1.heap.size < (_root_.Go.World.setRow (w1.alloc (.cells #[.int .u8 0, .int .u8 0, .int .u8 0, .int .u8 0, .int .u8 0, .int .u8 0, .int .u8 0, .int .u8 0] 30)) w1.heap.size (lnA L)).heap.size) := Lib.hid ⟨hs1, by rw [size_setRow]; simp⟩
  clear hb1 hs1 HM0 HB0 HS0
  go_upto_region 2 with (refine wpList_store_row rfl 30 (.tmp 3) (.tmp 10) rfl w1.heap.size (lnA L) rfl rfl _ _ HZ1.out info_line rfl (ln_one _) ?_)
  clear HZ1
  generalize (_root_.Go.World.setRow (w1.alloc (.cells #[.int .u8 0, .int .u8 0, .int .u8 0, .int .u8 0, .int .u8 0, .int .u8 0, .int .u8 0, .int .u8 0] 30)) w1.heap.size (lnA L)) = wa at *
  generalize w1.heap.size = g1 at *
  go_wp2_with (refine wpList_load_row rfl 28 (.tmp 1) rfl w.heap.size rfl _ _ _ _ HM1.out Try.underlying28 rfl info_msg ?_)
  refine (HRE.out _).mono ?_
  rintro e w2 ⟨rfl, hb2⟩
  have hs2 := hb2.size
  have HZ2 := Lib.hid (ln_zero w2)
  have HN2 := Lib.hid (show LnAt (_root_.Go.World.setRow (w2.alloc (.cells #[.int .u8 0, .int .u8 0, .int .u8 0, .int .u8 0, .int .u8 0, .int .u8 0, .int .u8 0, .int .u8 0] 30)) w2.heap.size (lnA L)) g1 L from (setRow_other (w2.alloc (.cells #[.int .u8 0, .int .u8 0, .int .u8 0, .int .u8 0, .int .u8 0, .int .u8 0, .int .u8 0, .int .u8 0] 30)) w2.heap.size g1 (lnA L) (by have := HG1.out; omega)).trans ((heap_alloc_old w2 _ (by have := HG1.out; omega)).trans ((hb2.block g1 HG1.out.2).trans HN1.out)))
  have HP2 := Lib.hid (show LnAt (_root_.Go.World.setRow (w2.alloc (.cells #[.int .u8 0, .int .u8 0, .int .u8 0, .int .u8 0, .int .u8 0, .int .u8 0, .int .u8 0, .int .u8 0] 30)) w2.heap.size (lnA L)) w2.heap.size L from setRow_heap _ _ _ (lnA L) _ _ HZ2.out)
  have HB2 := Lib.hid (below_setRow ((HB1.out.trans (hb2.mono HB1.out.size)).alloc (Nat.le_trans HB1.out.size hb2.size) (.cells #[.int .u8 0, .int .u8 0, .int .u8 0, .int .u8 0, .int .u8 0, .int .u8 0, .int .u8 0, .int .u8 0] 30)) (show w.heap.size ≤ w2.heap.size from Nat.le_trans HB1.out.size hb2.size) (lnA L))
  have HG2 : Hid (g1 < w2.heap.size ∧ w2.heap.size < (_root_.Go.World.setRow (w2.alloc (.cells #[.int .u8 0, .int .u8 0, .int .u8 0, .int .u8 0, .int .u8 0, .int .u8 0, .int .u8 0, .int .u8 0] 30)) w2.heap.size (lnA L)).heap.size) := Lib.hid ⟨by have := HG1.out; omega, by rw [size_setRow]; simp⟩
  clear hb2 hs2 HM1 HB1 HN1 HG1
  go_upto_region 3 with (refine wpList_store_row rfl 30 (.tmp 5) (.tmp 15) rfl w2.heap.size (lnA L) rfl rfl _ _ HZ2.out info_line rfl (ln_one _) ?_)
  clear HZ2
  generalize (_root_.Go.World.setRow (w2.alloc (.cells #[.int .u8 0, .int .u8 0, .int .u8 0, .int .u8 0, .int .u8 0, .int .u8 0, .int .u8 0, .int .u8 0] 30)) w2.heap.size (lnA L)) = wb at *
  generalize w2.heap.size = g2 at *
  go_wp2_with fail
  refine (live17_any _).mono ?_
  rintro e w3 ⟨rfl, hb3⟩
  have HN3 := Lib.hid (show LnAt w3 g1 L from (hb3.block g1 (by have := HG2.out; omega)).trans HN2.out)
  have HP3 := Lib.hid (show LnAt w3 g2 L from (hb3.block g2 HG2.out.2).trans HP2.out)
  have HB3 := Lib.hid (HB2.out.trans (hb3.mono HB2.out.size))
  clear hb3 HN2 HP2 HB2 HG2
  go_wp2_with (first
    | (refine wpList_step (fun K hK => Eq.mpr (if_pos (by kernel_rfl)) (wp_load_row 30 (.tmp 3) rfl g1 rfl _ _ _ _ HN3.out Try.underlying30 rfl info_line (hK _ _ ?_))))
    | (refine wpList_step (fun K hK => Eq.mpr (if_pos (by kernel_rfl)) (wp_load_row 30 (.tmp 5) rfl g2 rfl _ _ _ _ HP3.out Try.underlying30 rfl info_line (hK _ _ ?_)))))
  go_ret
  exact ⟨rfl, HB3.out⟩
end Go.Proofs.Ytfccjekhdfpkoaa
