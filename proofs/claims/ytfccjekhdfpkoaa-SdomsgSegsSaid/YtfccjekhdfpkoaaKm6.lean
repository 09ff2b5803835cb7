/- What get answers. -/
import Derived.Test.YtfccjekhdfpkoaaKl
namespace Go.Proofs.Ytfccjekhdfpkoaa
open Go.RowKit
set_option linter.unusedSimpArgs false
set_option linter.unusedVariables false
set_option maxHeartbeats 4000000
set_option maxRecDepth 8000 in
theorem get_10_no (b0 b1 b2 b3 b4 b5 b6 b7 : Int) (hr : (∀ x ∈ [b1, b2, b3, b4, b5, b6, b7], 0 ≤ x ∧ x ≤ 255) ∧ 0 ≤ b0 ∧ b0 ≤ 255) (hf : ¬ b0 / 2 % 2 = 1) (w : World) : Calls Try.prog 17 #[.agg #[.int .u8 b0, .int .u8 b1, .int .u8 b2, .int .u8 b3, .int .u8 b4, .int .u8 b5, .int .u8 b6, .int .u8 b7], .int .i64 10] w fun e w' => e = .returned (.agg #[.int .i64 10, .int .i64 (b1 + 256 * b2), .int .i64 (b3), .bool false, .bool false, .bool (false), .bool false, .int .i64 (gsN (decide (b0 % 2 = 1)) 0 [b4, b5, b6, b7]), .int .i64 0, .int .u8 0, .int .u8 0, .int .u8 0, .int .u8 0, .int .u8 0, .int .u8 0, .int .u8 0, .int .i64 0, .int .i64 0, .int .i64 0, .int .i64 0, .int .i64 0]) ∧ Below w.heap.size w w' := by
  have hl0 : LnAt (((w.alloc (.cells #[.int .u8 b0, .int .u8 b1, .int .u8 b2, .int .u8 b3, .int .u8 b4, .int .u8 b5, .int .u8 b6, .int .u8 b7] 30)).alloc (.cells #[.int .i64 0, .int .i64 0, .int .i64 0, .bool false, .bool false, .bool false, .bool false, .int .i64 0, .int .i64 0, .int .u8 0, .int .u8 0, .int .u8 0, .int .u8 0, .int .u8 0, .int .u8 0, .int .u8 0, .int .i64 0, .int .i64 0, .int .i64 0, .int .i64 0, .int .i64 0] 28)).alloc (.cells #[.int .i64 0, .int .i64 0, .int .i64 0, .bool false, .bool false, .bool false, .bool false, .int .i64 0, .int .i64 0, .int .u8 0, .int .u8 0, .int .u8 0, .int .u8 0, .int .u8 0, .int .u8 0, .int .u8 0, .int .i64 0, .int .i64 0, .int .i64 0, .int .i64 0, .int .i64 0] 28)) w.heap.size [b0, b1, b2, b3, b4, b5, b6, b7] := (heap_alloc_old _ _ (by simp; omega)).trans ((heap_alloc_old _ _ (by simp)).trans (heap_alloc_new w _))
  have hm0 : MsAt (((w.alloc (.cells #[.int .u8 b0, .int .u8 b1, .int .u8 b2, .int .u8 b3, .int .u8 b4, .int .u8 b5, .int .u8 b6, .int .u8 b7] 30)).alloc (.cells #[.int .i64 0, .int .i64 0, .int .i64 0, .bool false, .bool false, .bool false, .bool false, .int .i64 0, .int .i64 0, .int .u8 0, .int .u8 0, .int .u8 0, .int .u8 0, .int .u8 0, .int .u8 0, .int .u8 0, .int .i64 0, .int .i64 0, .int .i64 0, .int .i64 0, .int .i64 0] 28)).alloc (.cells #[.int .i64 0, .int .i64 0, .int .i64 0, .bool false, .bool false, .bool false, .bool false, .int .i64 0, .int .i64 0, .int .u8 0, .int .u8 0, .int .u8 0, .int .u8 0, .int .u8 0, .int .u8 0, .int .u8 0, .int .i64 0, .int .i64 0, .int .i64 0, .int .i64 0, .int .i64 0] 28)) (w.heap.size + 1) 0 0 0 false false false false 0 0 0 0 0 0 0 0 0 0 0 0 0 0 := (heap_alloc_old _ _ (by simp)).trans (by have := heap_alloc_new (w.alloc (.cells #[.int .u8 b0, .int .u8 b1, .int .u8 b2, .int .u8 b3, .int .u8 b4, .int .u8 b5, .int .u8 b6, .int .u8 b7] 30)) (.cells #[.int .i64 0, .int .i64 0, .int .i64 0, .bool false, .bool false, .bool false, .bool false, .int .i64 0, .int .i64 0, .int .u8 0, .int .u8 0, .int .u8 0, .int .u8 0, .int .u8 0, .int .u8 0, .int .u8 0, .int .i64 0, .int .i64 0, .int .i64 0, .int .i64 0, .int .i64 0] 28); simpa using this)
  have hm1 : MsAt (((w.alloc (.cells #[.int .u8 b0, .int .u8 b1, .int .u8 b2, .int .u8 b3, .int .u8 b4, .int .u8 b5, .int .u8 b6, .int .u8 b7] 30)).alloc (.cells #[.int .i64 0, .int .i64 0, .int .i64 0, .bool false, .bool false, .bool false, .bool false, .int .i64 0, .int .i64 0, .int .u8 0, .int .u8 0, .int .u8 0, .int .u8 0, .int .u8 0, .int .u8 0, .int .u8 0, .int .i64 0, .int .i64 0, .int .i64 0, .int .i64 0, .int .i64 0] 28)).alloc (.cells #[.int .i64 0, .int .i64 0, .int .i64 0, .bool false, .bool false, .bool false, .bool false, .int .i64 0, .int .i64 0, .int .u8 0, .int .u8 0, .int .u8 0, .int .u8 0, .int .u8 0, .int .u8 0, .int .u8 0, .int .i64 0, .int .i64 0, .int .i64 0, .int .i64 0, .int .i64 0] 28)) (w.heap.size + 2) 0 0 0 false false false false 0 0 0 0 0 0 0 0 0 0 0 0 0 0 := by have := heap_alloc_new ((w.alloc (.cells #[.int .u8 b0, .int .u8 b1, .int .u8 b2, .int .u8 b3, .int .u8 b4, .int .u8 b5, .int .u8 b6, .int .u8 b7] 30)).alloc (.cells #[.int .i64 0, .int .i64 0, .int .i64 0, .bool false, .bool false, .bool false, .bool false, .int .i64 0, .int .i64 0, .int .u8 0, .int .u8 0, .int .u8 0, .int .u8 0, .int .u8 0, .int .u8 0, .int .u8 0, .int .i64 0, .int .i64 0, .int .i64 0, .int .i64 0, .int .i64 0] 28)) (.cells #[.int .i64 0, .int .i64 0, .int .i64 0, .bool false, .bool false, .bool false, .bool false, .int .i64 0, .int .i64 0, .int .u8 0, .int .u8 0, .int .u8 0, .int .u8 0, .int .u8 0, .int .u8 0, .int .u8 0, .int .i64 0, .int .i64 0, .int .i64 0, .int .i64 0, .int .i64 0] 28); simpa [MsAt] using this
  have hb0 : Below w.heap.size w (((w.alloc (.cells #[.int .u8 b0, .int .u8 b1, .int .u8 b2, .int .u8 b3, .int .u8 b4, .int .u8 b5, .int .u8 b6, .int .u8 b7] 30)).alloc (.cells #[.int .i64 0, .int .i64 0, .int .i64 0, .bool false, .bool false, .bool false, .bool false, .int .i64 0, .int .i64 0, .int .u8 0, .int .u8 0, .int .u8 0, .int .u8 0, .int .u8 0, .int .u8 0, .int .u8 0, .int .i64 0, .int .i64 0, .int .i64 0, .int .i64 0, .int .i64 0] 28)).alloc (.cells #[.int .i64 0, .int .i64 0, .int .i64 0, .bool false, .bool false, .bool false, .bool false, .int .i64 0, .int .i64 0, .int .u8 0, .int .u8 0, .int .u8 0, .int .u8 0, .int .u8 0, .int .u8 0, .int .u8 0, .int .i64 0, .int .i64 0, .int .i64 0, .int .i64 0, .int .i64 0] 28)) := (((Below.refl _ _).alloc (Nat.le_refl _) _).alloc (by simp) _).alloc (by simp; omega) _
  have hs0 : (((w.alloc (.cells #[.int .u8 b0, .int .u8 b1, .int .u8 b2, .int .u8 b3, .int .u8 b4, .int .u8 b5, .int .u8 b6, .int .u8 b7] 30)).alloc (.cells #[.int .i64 0, .int .i64 0, .int .i64 0, .bool false, .bool false, .bool false, .bool false, .int .i64 0, .int .i64 0, .int .u8 0, .int .u8 0, .int .u8 0, .int .u8 0, .int .u8 0, .int .u8 0, .int .u8 0, .int .i64 0, .int .i64 0, .int .i64 0, .int .i64 0, .int .i64 0] 28)).alloc (.cells #[.int .i64 0, .int .i64 0, .int .i64 0, .bool false, .bool false, .bool false, .bool false, .int .i64 0, .int .i64 0, .int .u8 0, .int .u8 0, .int .u8 0, .int .u8 0, .int .u8 0, .int .u8 0, .int .u8 0, .int .i64 0, .int .i64 0, .int .i64 0, .int .i64 0, .int .i64 0] 28)).heap.size = w.heap.size + 3 := by simp
  have HL0 := Lib.hid hl0
  have HM0 := Lib.hid hm0
  have HM1 := Lib.hid hm1
  have HB0 := Lib.hid hb0
  have HS0 := Lib.hid hs0
  have HR := Lib.hid hr.1
  obtain ⟨hr0, hr1⟩ := hr.2
  clear hl0 hm0 hm1 hb0 hs0 hr
  go_enter Try.func17, Try.ntmps17
  go_wp2_with (refine wpList_store_row rfl 28 (.tmp 5) (.tmp 9) rfl (w.heap.size + 2) #[.int .i64 10, .int .i64 0, .int .i64 0, .bool false, .bool false, .bool false, .bool false, .int .i64 0, .int .i64 0, .int .u8 0, .int .u8 0, .int .u8 0, .int .u8 0, .int .u8 0, .int .u8 0, .int .u8 0, .int .i64 0, .int .i64 0, .int .i64 0, .int .i64 0, .int .i64 0] rfl rfl _ _ HM1.out info_msg rfl (one_msg 10 0 0 false false false false 0 0 0 0 0 0 0 0 0 0 0 0 0 0) ?_)
  have HL1 := Lib.hid (show LnAt (_root_.Go.World.setRow _ (w.heap.size + 2) #[.int .i64 10, .int .i64 0, .int .i64 0, .bool false, .bool false, .bool false, .bool false, .int .i64 0, .int .i64 0, .int .u8 0, .int .u8 0, .int .u8 0, .int .u8 0, .int .u8 0, .int .u8 0, .int .u8 0, .int .i64 0, .int .i64 0, .int .i64 0, .int .i64 0, .int .i64 0]) w.heap.size [b0, b1, b2, b3, b4, b5, b6, b7] from (setRow_other _ (w.heap.size + 2) w.heap.size #[.int .i64 10, .int .i64 0, .int .i64 0, .bool false, .bool false, .bool false, .bool false, .int .i64 0, .int .i64 0, .int .u8 0, .int .u8 0, .int .u8 0, .int .u8 0, .int .u8 0, .int .u8 0, .int .u8 0, .int .i64 0, .int .i64 0, .int .i64 0, .int .i64 0, .int .i64 0] (by omega)).trans HL0.out)
  have HM2 := Lib.hid (show MsAt (_root_.Go.World.setRow _ (w.heap.size + 2) #[.int .i64 10, .int .i64 0, .int .i64 0, .bool false, .bool false, .bool false, .bool false, .int .i64 0, .int .i64 0, .int .u8 0, .int .u8 0, .int .u8 0, .int .u8 0, .int .u8 0, .int .u8 0, .int .u8 0, .int .i64 0, .int .i64 0, .int .i64 0, .int .i64 0, .int .i64 0]) (w.heap.size + 1) 0 0 0 false false false false 0 0 0 0 0 0 0 0 0 0 0 0 0 0 from (setRow_other _ (w.heap.size + 2) (w.heap.size + 1) #[.int .i64 10, .int .i64 0, .int .i64 0, .bool false, .bool false, .bool false, .bool false, .int .i64 0, .int .i64 0, .int .u8 0, .int .u8 0, .int .u8 0, .int .u8 0, .int .u8 0, .int .u8 0, .int .u8 0, .int .i64 0, .int .i64 0, .int .i64 0, .int .i64 0, .int .i64 0] (by omega)).trans HM0.out)
  have HM3 := Lib.hid (show MsAt (_root_.Go.World.setRow _ (w.heap.size + 2) #[.int .i64 10, .int .i64 0, .int .i64 0, .bool false, .bool false, .bool false, .bool false, .int .i64 0, .int .i64 0, .int .u8 0, .int .u8 0, .int .u8 0, .int .u8 0, .int .u8 0, .int .u8 0, .int .u8 0, .int .i64 0, .int .i64 0, .int .i64 0, .int .i64 0, .int .i64 0]) (w.heap.size + 2) 10 0 0 false false false false 0 0 0 0 0 0 0 0 0 0 0 0 0 0 from setRow_heap _ _ _ _ _ _ HM1.out)
  have HB1 := Lib.hid (below_setRow HB0.out (show w.heap.size ≤ w.heap.size + 2 by omega) #[.int .i64 10, .int .i64 0, .int .i64 0, .bool false, .bool false, .bool false, .bool false, .int .i64 0, .int .i64 0, .int .u8 0, .int .u8 0, .int .u8 0, .int .u8 0, .int .u8 0, .int .u8 0, .int .u8 0, .int .i64 0, .int .i64 0, .int .i64 0, .int .i64 0, .int .i64 0])
  have HS1 : Hid ((_root_.Go.World.setRow (((w.alloc (.cells #[.int .u8 b0, .int .u8 b1, .int .u8 b2, .int .u8 b3, .int .u8 b4, .int .u8 b5, .int .u8 b6, .int .u8 b7] 30)).alloc (.cells #[.int .i64 0, .int .i64 0, .int .i64 0, .bool false, .bool false, .bool false, .bool false, .int .i64 0, .int .i64 0, .int .u8 0, .int .u8 0, .int .u8 0, .int .u8 0, .int .u8 0, .int .u8 0, .int .u8 0, .int .i64 0, .int .i64 0, .int .i64 0, .int .i64 0, .int .i64 0] 28)).alloc (.cells #[.int .i64 0, .int .i64 0, .int .i64 0, .bool false, .bool false, .bool false, .bool false, .int .i64 0, .int .i64 0, .int .u8 0, .int .u8 0, .int .u8 0, .int .u8 0, .int .u8 0, .int .u8 0, .int .u8 0, .int .i64 0, .int .i64 0, .int .i64 0, .int .i64 0, .int .i64 0] 28)) (w.heap.size + 2) #[.int .i64 10, .int .i64 0, .int .i64 0, .bool false, .bool false, .bool false, .bool false, .int .i64 0, .int .i64 0, .int .u8 0, .int .u8 0, .int .u8 0, .int .u8 0, .int .u8 0, .int .u8 0, .int .u8 0, .int .i64 0, .int .i64 0, .int .i64 0, .int .i64 0, .int .i64 0]).heap.size = w.heap.size + 3) := (size_setRow _ _ _).trans HS0.out
  clear HL0 HM0 HM1 HB0 HS0
  go_wp2_with fail
  generalize (_root_.Go.World.setRow (((w.alloc (.cells #[.int .u8 b0, .int .u8 b1, .int .u8 b2, .int .u8 b3, .int .u8 b4, .int .u8 b5, .int .u8 b6, .int .u8 b7] 30)).alloc (.cells #[.int .i64 0, .int .i64 0, .int .i64 0, .bool false, .bool false, .bool false, .bool false, .int .i64 0, .int .i64 0, .int .u8 0, .int .u8 0, .int .u8 0, .int .u8 0, .int .u8 0, .int .u8 0, .int .u8 0, .int .i64 0, .int .i64 0, .int .i64 0, .int .i64 0, .int .i64 0] 28)).alloc (.cells #[.int .i64 0, .int .i64 0, .int .i64 0, .bool false, .bool false, .bool false, .bool false, .int .i64 0, .int .i64 0, .int .u8 0, .int .u8 0, .int .u8 0, .int .u8 0, .int .u8 0, .int .u8 0, .int .u8 0, .int .i64 0, .int .i64 0, .int .i64 0, .int .i64 0, .int .i64 0] 28)) (w.heap.size + 2) #[.int .i64 10, .int .i64 0, .int .i64 0, .bool false, .bool false, .bool false, .bool false, .int .i64 0, .int .i64 0, .int .u8 0, .int .u8 0, .int .u8 0, .int .u8 0, .int .u8 0, .int .u8 0, .int .u8 0, .int .i64 0, .int .i64 0, .int .i64 0, .int .i64 0, .int .i64 0]) = w1 at *
  have HL2 : Hid (LnAt w1.drew w.heap.size [b0, b1, b2, b3, b4, b5, b6, b7]) := HL1.out
  have HM4 : Hid (MsAt w1.drew (w.heap.size + 1) 0 0 0 false false false false 0 0 0 0 0 0 0 0 0 0 0 0 0 0) := HM2.out
  have HM5 : Hid (MsAt w1.drew (w.heap.size + 2) 10 0 0 false false false false 0 0 0 0 0 0 0 0 0 0 0 0 0 0) := HM3.out
  have HB2 := Lib.hid HB1.out.drew
  have HS2 : Hid (w1.drew.heap.size = w.heap.size + 3) := HS1.out
  clear HL1 HM2 HM3 HB1 HS1
  refine wp_region_last (fun w' => w'.cell? ⟨w.heap.size, 0, none⟩ = some (.int .u8 b0)) 6 (by kernel_rfl) (by show w1.drew.cell? _ = _; rw [cell_of_row _ _ _ _ _ _ HL2.out]; rfl) ?_
  intro hHeld
  refine wpAnyL_take (i := 0) (v := ?_) rfl (by kernel_rfl) (by kernel_rfl) (by kernel_rfl) (by kernel_rfl) (by kernel_rfl) (fun _ _ _ h => h) (Or.inl ⟨by rfl, ?_⟩) (by assumption) ?_
  rotate_left
  · intro wq hSw; (try dsimp only at hSw); first | (go_simp; done) | (go_simp; with_reducible rfl) | with_reducible rfl
  try simp only [Act.put, List.setIfInBounds_toArray, List.set_cons_zero, List.set_cons_succ]
  refine wpAnyL_take (i := 1) (v := ?_) rfl (by kernel_rfl) (by kernel_rfl) (by kernel_rfl) (by kernel_rfl) (by kernel_rfl) (fun _ _ _ h => h) (Or.inl ⟨by rfl, ?_⟩) (by assumption) ?_
  rotate_left
  · intro wq hSw; (try dsimp only at hSw); first | (go_simp; done) | (go_simp; with_reducible rfl) | with_reducible rfl
  try simp only [Act.put, List.setIfInBounds_toArray, List.set_cons_zero, List.set_cons_succ]
  refine wpAnyL_take (i := 2) (v := ?_) rfl (by kernel_rfl) (by kernel_rfl) (by kernel_rfl) (by kernel_rfl) (by kernel_rfl) (fun _ _ _ h => h) (Or.inl ⟨by rfl, ?_⟩) (by assumption) ?_
  rotate_left
  · intro wq hSw; (try dsimp only at hSw); first | (go_simp; done) | (go_simp; with_reducible rfl) | with_reducible rfl
  try simp only [Act.put, List.setIfInBounds_toArray, List.set_cons_zero, List.set_cons_succ]
  refine wpAnyL_take (i := 3) (v := ?_) rfl (by kernel_rfl) (by kernel_rfl) (by kernel_rfl) (by kernel_rfl) (by kernel_rfl) (fun _ _ _ h => h) (Or.inl ⟨by rfl, ?_⟩) (by assumption) ?_
  rotate_left
  · intro wq hSw; (try dsimp only at hSw); first | (go_simp; done) | (go_simp; with_reducible rfl) | with_reducible rfl
  try simp only [Act.put, List.setIfInBounds_toArray, List.set_cons_zero, List.set_cons_succ]
  refine wpAnyL_ready (rs := [4]) (by kernel_rfl) (by simp) ?_
  refine (AllReadyL.cons rfl (fun K hK => ?_) AllReadyL.nil)
  go_simp
  go_wp2_with fail
  have hby : Byt w1.drew w1.drew.heap.size (some ⟨w.heap.size, 1, none⟩) 7 7 [b1, b2, b3, b4, b5, b6, b7] := by
    refine ⟨rfl, Nat.le_refl _, by simp [maxLen], HR.out, fun _ => ⟨w.heap.size, 1, rfl, by rw [HS2.out]; omega, fun j hj => ?_⟩⟩
    rw [cell_of_row _ _ _ _ _ _ HL2.out]
    obtain rfl | rfl | rfl | rfl | rfl | rfl | rfl : j = 0 ∨ j = 1 ∨ j = 2 ∨ j = 3 ∨ j = 4 ∨ j = 5 ∨ j = 6 := by omega
    all_goals rfl
  refine (new_any _ _ _ _ _ hby (by omega)).mono ?_
  rintro e w2 ⟨gr, A2, c2, rfl, hgr, hrd, hbt, hb3, hA2⟩
  have hsz2 := HS2.out
  have HQ := Lib.hid (show RB (w.heap.size + 3) w2 gr 0 [b1, b2, b3, b4, b5, b6, b7] from ⟨A2, c2, hrd, hbt, fun b o s e => by
    obtain ⟨b', o', e', _⟩ := hbt.cells (by omega)
    rw [e'] at e
    cases e
    rw [← hsz2]
    exact hA2 _ _ e'⟩)
  clear hsz2 hA2
  have HL3 := Lib.hid (HL2.out.below hb3 HL2.out.lt)
  have HM6 := Lib.hid (HM4.out.below hb3 HM4.out.lt)
  have HM7 := Lib.hid (HM5.out.below hb3 HM5.out.lt)
  have HB3 := Lib.hid (HB2.out.trans (hb3.mono HB2.out.size))
  have HGR : Hid (w.heap.size + 3 ≤ gr ∧ gr < w2.heap.size) := ⟨by rw [← HS2.out]; exact hgr, hrd.lt⟩
  clear hby hrd hbt hb3 HL2 HM4 HM5 HB2 HS2 hgr
  refine hK.out _ _ (by show w2.cell? _ = _; rw [cell_of_row _ _ _ _ _ _ HL3.out]; rfl) (fun hHeld => ?_)
  clear hK K
  refine wpAnyL_ready (rs := [5]) (by kernel_rfl) (by simp) ?_
  refine (AllReadyL.cons rfl (fun K hK => ?_) AllReadyL.nil)
  go_simp
  refine hK.out _ _ hHeld (fun hHeld => ?_)
  clear hK K
  refine wpAnyL_ready (rs := [6]) (by kernel_rfl) (by simp) ?_
  refine AllReadyL.last rfl (fun K hK => ?_)
  go_simp
  refine hK.out _ _ ?_
  clear hK K
  refine wpAnyL_done (by kernel_rfl) ?_ _
  clear hHeld
  have S0 := Lib.hid (show GS w gr [b0, b1, b2, b3, b4, b5, b6, b7] #[.int .i64 10, .int .i64 0, .int .i64 0, .bool false, .bool false, .bool false, .bool false, .int .i64 0, .int .i64 0, .int .u8 0, .int .u8 0, .int .u8 0, .int .u8 0, .int .u8 0, .int .u8 0, .int .u8 0, .int .i64 0, .int .i64 0, .int .i64 0, .int .i64 0, .int .i64 0] 0 [b1, b2, b3, b4, b5, b6, b7] w2 from ⟨HB3.out, HL3.out, HM6.out, HM7.out, HQ.out, HGR.out⟩)
  clear HB3 HL3 HM6 HM7 HQ HGR
  have HT := Lib.hid (bT hr0 hr1)
  obtain ⟨hb1, hb2, hb3, hb4, hb5, hb6, hb7⟩ : (0 ≤ b1 ∧ b1 ≤ 255) ∧ (0 ≤ b2 ∧ b2 ≤ 255) ∧ (0 ≤ b3 ∧ b3 ≤ 255) ∧ (0 ≤ b4 ∧ b4 ≤ 255) ∧ (0 ≤ b5 ∧ b5 ≤ 255) ∧ (0 ≤ b6 ∧ b6 ≤ 255) ∧ (0 ≤ b7 ∧ b7 ≤ 255) := by simpa using HR.out
  go_wp2_with (fail)
  refine (getkey_any S0.out.hq S0.out.hg.2).mono ?_
  rw [(gk_line hb1 hb2 hb3).1, (gk_line hb1 hb2 hb3).2.1, (gk_line hb1 hb2 hb3).2.2.1, (gk_line hb1 hb2 hb3).2.2.2]
  rintro e w10 ⟨rfl, hq1, hg1⟩
  have R1 := Lib.hid (S0.out.step hq1 hg1)
  clear hq1 hg1
  have k2_fa := R1.out.off.cell 5
  have f2_fa := R1.out.off.frozen 5
  have k2_sz := R1.out.off.cell 7
  have f2_sz := R1.out.off.frozen 7
  have k2_n := R1.out.off.cell 8
  have f2_n := R1.out.off.frozen 8
  simp [lnA] at k2_fa k2_sz k2_n
  have R3 := Lib.hid (((((R1.out).set 1 (.int .i64 (b1 + 256 * b2))).set 2 (.int .i64 (b3))).set 5 (.bool (bits BinOp.and IntKind.i64 b0 2 != 0))).cong (m' := #[.int .i64 10, .int .i64 (b1 + 256 * b2), .int .i64 (b3), .bool false, .bool false, .bool (false), .bool false, .int .i64 0, .int .i64 0, .int .u8 0, .int .u8 0, .int .u8 0, .int .u8 0, .int .u8 0, .int .u8 0, .int .u8 0, .int .i64 0, .int .i64 0, .int .i64 0, .int .i64 0, .int .i64 0]) (by rw [HT.out.2.2.1, decide_eq_false hf]; rfl))
  go_wp2_with (first | (refine wpList_store_two rfl (x := .tmp 90) (y := .tmp 86) rfl rfl rfl R1.out.hm info_key (by decide) rfl rfl ?_))
  rotate_left
  · exfalso
    have h : (!(bits BinOp.and IntKind.i64 b0 2 != 0)) = false := by assumption
    rw [HT.out.2.2.1, decide_eq_false hf] at h
    simp at h
  refine (getsize_any R3.out.hq (bits BinOp.and IntKind.i64 b0 1 != 0)).mono ?_
  rintro e w13 ⟨rfl, hg4⟩
  have R4 := Lib.hid (R3.out.goes hg4)
  clear hg4
  have k5_sz := R4.out.cell 7
  have f5_sz := R4.out.frozen 7
  simp [lnA] at k5_sz
  have R6 := Lib.hid (((R4.out).set 7 (.int .i64 (gsN (bits BinOp.and IntKind.i64 b0 1 != 0) 0 [b4, b5, b6, b7]))).cong (m' := #[.int .i64 10, .int .i64 (b1 + 256 * b2), .int .i64 (b3), .bool false, .bool false, .bool (false), .bool false, .int .i64 (gsN (decide (b0 % 2 = 1)) 0 [b4, b5, b6, b7]), .int .i64 0, .int .u8 0, .int .u8 0, .int .u8 0, .int .u8 0, .int .u8 0, .int .u8 0, .int .u8 0, .int .i64 0, .int .i64 0, .int .i64 0, .int .i64 0, .int .i64 0]) (by rw [HT.out.2.1]; rfl))
  go_wp2_with (first
    | (refine wpList_load_row rfl 28 (.tmp 5) rfl (w.heap.size + 1 + 1) rfl _ #[.int .i64 10, .int .i64 (b1 + 256 * b2), .int .i64 (b3), .bool false, .bool false, .bool (false), .bool false, .int .i64 (gsN (decide (b0 % 2 = 1)) 0 [b4, b5, b6, b7]), .int .i64 0, .int .u8 0, .int .u8 0, .int .u8 0, .int .u8 0, .int .u8 0, .int .u8 0, .int .u8 0, .int .i64 0, .int .i64 0, .int .i64 0, .int .i64 0, .int .i64 0] _ _ R6.out.hm Try.underlying28 rfl info_msg ?_)
    | (refine wpList_store_row rfl 28 (.tmp 4) (.tmp 146) rfl (w.heap.size + 1) #[.int .i64 10, .int .i64 (b1 + 256 * b2), .int .i64 (b3), .bool false, .bool false, .bool (false), .bool false, .int .i64 (gsN (decide (b0 % 2 = 1)) 0 [b4, b5, b6, b7]), .int .i64 0, .int .u8 0, .int .u8 0, .int .u8 0, .int .u8 0, .int .u8 0, .int .u8 0, .int .u8 0, .int .i64 0, .int .i64 0, .int .i64 0, .int .i64 0, .int .i64 0] rfl rfl _ _ R6.out.hr info_msg rfl (one_msg (10) ((b1 + 256 * b2)) ((b3)) (false) (false) ((false)) (false) ((gsN (decide (b0 % 2 = 1)) 0 [b4, b5, b6, b7])) (0) (0) (0) (0) (0) (0) (0) (0) (0) (0) (0) (0) (0)) ?_))
  exact bodyPost_ret (results_cell_row rfl _ _ (w.heap.size + 1) _ _ _ _ rfl (setRow_heap _ _ _ #[.int .i64 10, .int .i64 (b1 + 256 * b2), .int .i64 (b3), .bool false, .bool false, .bool (false), .bool false, .int .i64 (gsN (decide (b0 % 2 = 1)) 0 [b4, b5, b6, b7]), .int .i64 0, .int .u8 0, .int .u8 0, .int .u8 0, .int .u8 0, .int .u8 0, .int .u8 0, .int .u8 0, .int .i64 0, .int .i64 0, .int .i64 0, .int .i64 0, .int .i64 0] _ _ R6.out.hr) Try.underlying28 rfl info_msg) rfl ⟨rfl, below_setRow R6.out.hb (by omega) _⟩
set_option maxRecDepth 8000 in
theorem get_10_yes (b0 b1 b2 b3 b4 b5 b6 b7 : Int) (hr : (∀ x ∈ [b1, b2, b3, b4, b5, b6, b7], 0 ≤ x ∧ x ≤ 255) ∧ 0 ≤ b0 ∧ b0 ≤ 255) (hf : b0 / 2 % 2 = 1) (w : World) : Calls Try.prog 17 #[.agg #[.int .u8 b0, .int .u8 b1, .int .u8 b2, .int .u8 b3, .int .u8 b4, .int .u8 b5, .int .u8 b6, .int .u8 b7], .int .i64 10] w fun e w' => e = .returned (.agg #[.int .i64 10, .int .i64 (b1 + 256 * b2), .int .i64 (b3), .bool false, .bool false, .bool (true), .bool false, .int .i64 0, .int .i64 (4 - b0 / 4 % 4), .int .u8 (([b4, b5, b6, b7].take (4 - b0 / 4 % 4).toNat).getD 0 0), .int .u8 (([b4, b5, b6, b7].take (4 - b0 / 4 % 4).toNat).getD 1 0), .int .u8 (([b4, b5, b6, b7].take (4 - b0 / 4 % 4).toNat).getD 2 0), .int .u8 (([b4, b5, b6, b7].take (4 - b0 / 4 % 4).toNat).getD 3 0), .int .u8 (([b4, b5, b6, b7].take (4 - b0 / 4 % 4).toNat).getD 4 0), .int .u8 (([b4, b5, b6, b7].take (4 - b0 / 4 % 4).toNat).getD 5 0), .int .u8 (([b4, b5, b6, b7].take (4 - b0 / 4 % 4).toNat).getD 6 0), .int .i64 0, .int .i64 0, .int .i64 0, .int .i64 0, .int .i64 0]) ∧ Below w.heap.size w w' := by
  have hl0 : LnAt (((w.alloc (.cells #[.int .u8 b0, .int .u8 b1, .int .u8 b2, .int .u8 b3, .int .u8 b4, .int .u8 b5, .int .u8 b6, .int .u8 b7] 30)).alloc (.cells #[.int .i64 0, .int .i64 0, .int .i64 0, .bool false, .bool false, .bool false, .bool false, .int .i64 0, .int .i64 0, .int .u8 0, .int .u8 0, .int .u8 0, .int .u8 0, .int .u8 0, .int .u8 0, .int .u8 0, .int .i64 0, .int .i64 0, .int .i64 0, .int .i64 0, .int .i64 0] 28)).alloc (.cells #[.int .i64 0, .int .i64 0, .int .i64 0, .bool false, .bool false, .bool false, .bool false, .int .i64 0, .int .i64 0, .int .u8 0, .int .u8 0, .int .u8 0, .int .u8 0, .int .u8 0, .int .u8 0, .int .u8 0, .int .i64 0, .int .i64 0, .int .i64 0, .int .i64 0, .int .i64 0] 28)) w.heap.size [b0, b1, b2, b3, b4, b5, b6, b7] := (heap_alloc_old _ _ (by simp; omega)).trans ((heap_alloc_old _ _ (by simp)).trans (heap_alloc_new w _))
  have hm0 : MsAt (((w.alloc (.cells #[.int .u8 b0, .int .u8 b1, .int .u8 b2, .int .u8 b3, .int .u8 b4, .int .u8 b5, .int .u8 b6, .int .u8 b7] 30)).alloc (.cells #[.int .i64 0, .int .i64 0, .int .i64 0, .bool false, .bool false, .bool false, .bool false, .int .i64 0, .int .i64 0, .int .u8 0, .int .u8 0, .int .u8 0, .int .u8 0, .int .u8 0, .int .u8 0, .int .u8 0, .int .i64 0, .int .i64 0, .int .i64 0, .int .i64 0, .int .i64 0] 28)).alloc (.cells #[.int .i64 0, .int .i64 0, .int .i64 0, .bool false, .bool false, .bool false, .bool false, .int .i64 0, .int .i64 0, .int .u8 0, .int .u8 0, .int .u8 0, .int .u8 0, .int .u8 0, .int .u8 0, .int .u8 0, .int .i64 0, .int .i64 0, .int .i64 0, .int .i64 0, .int .i64 0] 28)) (w.heap.size + 1) 0 0 0 false false false false 0 0 0 0 0 0 0 0 0 0 0 0 0 0 := (heap_alloc_old _ _ (by simp)).trans (by have := heap_alloc_new (w.alloc (.cells #[.int .u8 b0, .int .u8 b1, .int .u8 b2, .int .u8 b3, .int .u8 b4, .int .u8 b5, .int .u8 b6, .int .u8 b7] 30)) (.cells #[.int .i64 0, .int .i64 0, .int .i64 0, .bool false, .bool false, .bool false, .bool false, .int .i64 0, .int .i64 0, .int .u8 0, .int .u8 0, .int .u8 0, .int .u8 0, .int .u8 0, .int .u8 0, .int .u8 0, .int .i64 0, .int .i64 0, .int .i64 0, .int .i64 0, .int .i64 0] 28); simpa using this)
  have hm1 : MsAt (((w.alloc (.cells #[.int .u8 b0, .int .u8 b1, .int .u8 b2, .int .u8 b3, .int .u8 b4, .int .u8 b5, .int .u8 b6, .int .u8 b7] 30)).alloc (.cells #[.int .i64 0, .int .i64 0, .int .i64 0, .bool false, .bool false, .bool false, .bool false, .int .i64 0, .int .i64 0, .int .u8 0, .int .u8 0, .int .u8 0, .int .u8 0, .int .u8 0, .int .u8 0, .int .u8 0, .int .i64 0, .int .i64 0, .int .i64 0, .int .i64 0, .int .i64 0] 28)).alloc (.cells #[.int .i64 0, .int .i64 0, .int .i64 0, .bool false, .bool false, .bool false, .bool false, .int .i64 0, .int .i64 0, .int .u8 0, .int .u8 0, .int .u8 0, .int .u8 0, .int .u8 0, .int .u8 0, .int .u8 0, .int .i64 0, .int .i64 0, .int .i64 0, .int .i64 0, .int .i64 0] 28)) (w.heap.size + 2) 0 0 0 false false false false 0 0 0 0 0 0 0 0 0 0 0 0 0 0 := by have := heap_alloc_new ((w.alloc (.cells #[.int .u8 b0, .int .u8 b1, .int .u8 b2, .int .u8 b3, .int .u8 b4, .int .u8 b5, .int .u8 b6, .int .u8 b7] 30)).alloc (.cells #[.int .i64 0, .int .i64 0, .int .i64 0, .bool false, .bool false, .bool false, .bool false, .int .i64 0, .int .i64 0, .int .u8 0, .int .u8 0, .int .u8 0, .int .u8 0, .int .u8 0, .int .u8 0, .int .u8 0, .int .i64 0, .int .i64 0, .int .i64 0, .int .i64 0, .int .i64 0] 28)) (.cells #[.int .i64 0, .int .i64 0, .int .i64 0, .bool false, .bool false, .bool false, .bool false, .int .i64 0, .int .i64 0, .int .u8 0, .int .u8 0, .int .u8 0, .int .u8 0, .int .u8 0, .int .u8 0, .int .u8 0, .int .i64 0, .int .i64 0, .int .i64 0, .int .i64 0, .int .i64 0] 28); simpa [MsAt] using this
  have hb0 : Below w.heap.size w (((w.alloc (.cells #[.int .u8 b0, .int .u8 b1, .int .u8 b2, .int .u8 b3, .int .u8 b4, .int .u8 b5, .int .u8 b6, .int .u8 b7] 30)).alloc (.cells #[.int .i64 0, .int .i64 0, .int .i64 0, .bool false, .bool false, .bool false, .bool false, .int .i64 0, .int .i64 0, .int .u8 0, .int .u8 0, .int .u8 0, .int .u8 0, .int .u8 0, .int .u8 0, .int .u8 0, .int .i64 0, .int .i64 0, .int .i64 0, .int .i64 0, .int .i64 0] 28)).alloc (.cells #[.int .i64 0, .int .i64 0, .int .i64 0, .bool false, .bool false, .bool false, .bool false, .int .i64 0, .int .i64 0, .int .u8 0, .int .u8 0, .int .u8 0, .int .u8 0, .int .u8 0, .int .u8 0, .int .u8 0, .int .i64 0, .int .i64 0, .int .i64 0, .int .i64 0, .int .i64 0] 28)) := (((Below.refl _ _).alloc (Nat.le_refl _) _).alloc (by simp) _).alloc (by simp; omega) _
  have hs0 : (((w.alloc (.cells #[.int .u8 b0, .int .u8 b1, .int .u8 b2, .int .u8 b3, .int .u8 b4, .int .u8 b5, .int .u8 b6, .int .u8 b7] 30)).alloc (.cells #[.int .i64 0, .int .i64 0, .int .i64 0, .bool false, .bool false, .bool false, .bool false, .int .i64 0, .int .i64 0, .int .u8 0, .int .u8 0, .int .u8 0, .int .u8 0, .int .u8 0, .int .u8 0, .int .u8 0, .int .i64 0, .int .i64 0, .int .i64 0, .int .i64 0, .int .i64 0] 28)).alloc (.cells #[.int .i64 0, .int .i64 0, .int .i64 0, .bool false, .bool false, .bool false, .bool false, .int .i64 0, .int .i64 0, .int .u8 0, .int .u8 0, .int .u8 0, .int .u8 0, .int .u8 0, .int .u8 0, .int .u8 0, .int .i64 0, .int .i64 0, .int .i64 0, .int .i64 0, .int .i64 0] 28)).heap.size = w.heap.size + 3 := by simp
  have HL0 := Lib.hid hl0
  have HM0 := Lib.hid hm0
  have HM1 := Lib.hid hm1
  have HB0 := Lib.hid hb0
  have HS0 := Lib.hid hs0
  have HR := Lib.hid hr.1
  obtain ⟨hr0, hr1⟩ := hr.2
  clear hl0 hm0 hm1 hb0 hs0 hr
  go_enter Try.func17, Try.ntmps17
  go_wp2_with (refine wpList_store_row rfl 28 (.tmp 5) (.tmp 9) rfl (w.heap.size + 2) #[.int .i64 10, .int .i64 0, .int .i64 0, .bool false, .bool false, .bool false, .bool false, .int .i64 0, .int .i64 0, .int .u8 0, .int .u8 0, .int .u8 0, .int .u8 0, .int .u8 0, .int .u8 0, .int .u8 0, .int .i64 0, .int .i64 0, .int .i64 0, .int .i64 0, .int .i64 0] rfl rfl _ _ HM1.out info_msg rfl (one_msg 10 0 0 false false false false 0 0 0 0 0 0 0 0 0 0 0 0 0 0) ?_)
  have HL1 := Lib.hid (show LnAt (_root_.Go.World.setRow _ (w.heap.size + 2) #[.int .i64 10, .int .i64 0, .int .i64 0, .bool false, .bool false, .bool false, .bool false, .int .i64 0, .int .i64 0, .int .u8 0, .int .u8 0, .int .u8 0, .int .u8 0, .int .u8 0, .int .u8 0, .int .u8 0, .int .i64 0, .int .i64 0, .int .i64 0, .int .i64 0, .int .i64 0]) w.heap.size [b0, b1, b2, b3, b4, b5, b6, b7] from (setRow_other _ (w.heap.size + 2) w.heap.size #[.int .i64 10, .int .i64 0, .int .i64 0, .bool false, .bool false, .bool false, .bool false, .int .i64 0, .int .i64 0, .int .u8 0, .int .u8 0, .int .u8 0, .int .u8 0, .int .u8 0, .int .u8 0, .int .u8 0, .int .i64 0, .int .i64 0, .int .i64 0, .int .i64 0, .int .i64 0] (by omega)).trans HL0.out)
  have HM2 := Lib.hid (show MsAt (_root_.Go.World.setRow _ (w.heap.size + 2) #[.int .i64 10, .int .i64 0, .int .i64 0, .bool false, .bool false, .bool false, .bool false, .int .i64 0, .int .i64 0, .int .u8 0, .int .u8 0, .int .u8 0, .int .u8 0, .int .u8 0, .int .u8 0, .int .u8 0, .int .i64 0, .int .i64 0, .int .i64 0, .int .i64 0, .int .i64 0]) (w.heap.size + 1) 0 0 0 false false false false 0 0 0 0 0 0 0 0 0 0 0 0 0 0 from (setRow_other _ (w.heap.size + 2) (w.heap.size + 1) #[.int .i64 10, .int .i64 0, .int .i64 0, .bool false, .bool false, .bool false, .bool false, .int .i64 0, .int .i64 0, .int .u8 0, .int .u8 0, .int .u8 0, .int .u8 0, .int .u8 0, .int .u8 0, .int .u8 0, .int .i64 0, .int .i64 0, .int .i64 0, .int .i64 0, .int .i64 0] (by omega)).trans HM0.out)
  have HM3 := Lib.hid (show MsAt (_root_.Go.World.setRow _ (w.heap.size + 2) #[.int .i64 10, .int .i64 0, .int .i64 0, .bool false, .bool false, .bool false, .bool false, .int .i64 0, .int .i64 0, .int .u8 0, .int .u8 0, .int .u8 0, .int .u8 0, .int .u8 0, .int .u8 0, .int .u8 0, .int .i64 0, .int .i64 0, .int .i64 0, .int .i64 0, .int .i64 0]) (w.heap.size + 2) 10 0 0 false false false false 0 0 0 0 0 0 0 0 0 0 0 0 0 0 from setRow_heap _ _ _ _ _ _ HM1.out)
  have HB1 := Lib.hid (below_setRow HB0.out (show w.heap.size ≤ w.heap.size + 2 by omega) #[.int .i64 10, .int .i64 0, .int .i64 0, .bool false, .bool false, .bool false, .bool false, .int .i64 0, .int .i64 0, .int .u8 0, .int .u8 0, .int .u8 0, .int .u8 0, .int .u8 0, .int .u8 0, .int .u8 0, .int .i64 0, .int .i64 0, .int .i64 0, .int .i64 0, .int .i64 0])
  have HS1 : Hid ((_root_.Go.World.setRow (((w.alloc (.cells #[.int .u8 b0, .int .u8 b1, .int .u8 b2, .int .u8 b3, .int .u8 b4, .int .u8 b5, .int .u8 b6, .int .u8 b7] 30)).alloc (.cells #[.int .i64 0, .int .i64 0, .int .i64 0, .bool false, .bool false, .bool false, .bool false, .int .i64 0, .int .i64 0, .int .u8 0, .int .u8 0, .int .u8 0, .int .u8 0, .int .u8 0, .int .u8 0, .int .u8 0, .int .i64 0, .int .i64 0, .int .i64 0, .int .i64 0, .int .i64 0] 28)).alloc (.cells #[.int .i64 0, .int .i64 0, .int .i64 0, .bool false, .bool false, .bool false, .bool false, .int .i64 0, .int .i64 0, .int .u8 0, .int .u8 0, .int .u8 0, .int .u8 0, .int .u8 0, .int .u8 0, .int .u8 0, .int .i64 0, .int .i64 0, .int .i64 0, .int .i64 0, .int .i64 0] 28)) (w.heap.size + 2) #[.int .i64 10, .int .i64 0, .int .i64 0, .bool false, .bool false, .bool false, .bool false, .int .i64 0, .int .i64 0, .int .u8 0, .int .u8 0, .int .u8 0, .int .u8 0, .int .u8 0, .int .u8 0, .int .u8 0, .int .i64 0, .int .i64 0, .int .i64 0, .int .i64 0, .int .i64 0]).heap.size = w.heap.size + 3) := (size_setRow _ _ _).trans HS0.out
  clear HL0 HM0 HM1 HB0 HS0
  go_wp2_with fail
  generalize (_root_.Go.World.setRow (((w.alloc (.cells #[.int .u8 b0, .int .u8 b1, .int .u8 b2, .int .u8 b3, .int .u8 b4, .int .u8 b5, .int .u8 b6, .int .u8 b7] 30)).alloc (.cells #[.int .i64 0, .int .i64 0, .int .i64 0, .bool false, .bool false, .bool false, .bool false, .int .i64 0, .int .i64 0, .int .u8 0, .int .u8 0, .int .u8 0, .int .u8 0, .int .u8 0, .int .u8 0, .int .u8 0, .int .i64 0, .int .i64 0, .int .i64 0, .int .i64 0, .int .i64 0] 28)).alloc (.cells #[.int .i64 0, .int .i64 0, .int .i64 0, .bool false, .bool false, .bool false, .bool false, .int .i64 0, .int .i64 0, .int .u8 0, .int .u8 0, .int .u8 0, .int .u8 0, .int .u8 0, .int .u8 0, .int .u8 0, .int .i64 0, .int .i64 0, .int .i64 0, .int .i64 0, .int .i64 0] 28)) (w.heap.size + 2) #[.int .i64 10, .int .i64 0, .int .i64 0, .bool false, .bool false, .bool false, .bool false, .int .i64 0, .int .i64 0, .int .u8 0, .int .u8 0, .int .u8 0, .int .u8 0, .int .u8 0, .int .u8 0, .int .u8 0, .int .i64 0, .int .i64 0, .int .i64 0, .int .i64 0, .int .i64 0]) = w1 at *
  have HL2 : Hid (LnAt w1.drew w.heap.size [b0, b1, b2, b3, b4, b5, b6, b7]) := HL1.out
  have HM4 : Hid (MsAt w1.drew (w.heap.size + 1) 0 0 0 false false false false 0 0 0 0 0 0 0 0 0 0 0 0 0 0) := HM2.out
  have HM5 : Hid (MsAt w1.drew (w.heap.size + 2) 10 0 0 false false false false 0 0 0 0 0 0 0 0 0 0 0 0 0 0) := HM3.out
  have HB2 := Lib.hid HB1.out.drew
  have HS2 : Hid (w1.drew.heap.size = w.heap.size + 3) := HS1.out
  clear HL1 HM2 HM3 HB1 HS1
  refine wp_region_last (fun w' => w'.cell? ⟨w.heap.size, 0, none⟩ = some (.int .u8 b0)) 6 (by kernel_rfl) (by show w1.drew.cell? _ = _; rw [cell_of_row _ _ _ _ _ _ HL2.out]; rfl) ?_
  intro hHeld
  refine wpAnyL_take (i := 0) (v := ?_) rfl (by kernel_rfl) (by kernel_rfl) (by kernel_rfl) (by kernel_rfl) (by kernel_rfl) (fun _ _ _ h => h) (Or.inl ⟨by rfl, ?_⟩) (by assumption) ?_
  rotate_left
  · intro wq hSw; (try dsimp only at hSw); first | (go_simp; done) | (go_simp; with_reducible rfl) | with_reducible rfl
  try simp only [Act.put, List.setIfInBounds_toArray, List.set_cons_zero, List.set_cons_succ]
  refine wpAnyL_take (i := 1) (v := ?_) rfl (by kernel_rfl) (by kernel_rfl) (by kernel_rfl) (by kernel_rfl) (by kernel_rfl) (fun _ _ _ h => h) (Or.inl ⟨by rfl, ?_⟩) (by assumption) ?_
  rotate_left
  · intro wq hSw; (try dsimp only at hSw); first | (go_simp; done) | (go_simp; with_reducible rfl) | with_reducible rfl
  try simp only [Act.put, List.setIfInBounds_toArray, List.set_cons_zero, List.set_cons_succ]
  refine wpAnyL_take (i := 2) (v := ?_) rfl (by kernel_rfl) (by kernel_rfl) (by kernel_rfl) (by kernel_rfl) (by kernel_rfl) (fun _ _ _ h => h) (Or.inl ⟨by rfl, ?_⟩) (by assumption) ?_
  rotate_left
  · intro wq hSw; (try dsimp only at hSw); first | (go_simp; done) | (go_simp; with_reducible rfl) | with_reducible rfl
  try simp only [Act.put, List.setIfInBounds_toArray, List.set_cons_zero, List.set_cons_succ]
  refine wpAnyL_take (i := 3) (v := ?_) rfl (by kernel_rfl) (by kernel_rfl) (by kernel_rfl) (by kernel_rfl) (by kernel_rfl) (fun _ _ _ h => h) (Or.inl ⟨by rfl, ?_⟩) (by assumption) ?_
  rotate_left
  · intro wq hSw; (try dsimp only at hSw); first | (go_simp; done) | (go_simp; with_reducible rfl) | with_reducible rfl
  try simp only [Act.put, List.setIfInBounds_toArray, List.set_cons_zero, List.set_cons_succ]
  refine wpAnyL_ready (rs := [4]) (by kernel_rfl) (by simp) ?_
  refine (AllReadyL.cons rfl (fun K hK => ?_) AllReadyL.nil)
  go_simp
  go_wp2_with fail
  have hby : Byt w1.drew w1.drew.heap.size (some ⟨w.heap.size, 1, none⟩) 7 7 [b1, b2, b3, b4, b5, b6, b7] := by
    refine ⟨rfl, Nat.le_refl _, by simp [maxLen], HR.out, fun _ => ⟨w.heap.size, 1, rfl, by rw [HS2.out]; omega, fun j hj => ?_⟩⟩
    rw [cell_of_row _ _ _ _ _ _ HL2.out]
    obtain rfl | rfl | rfl | rfl | rfl | rfl | rfl : j = 0 ∨ j = 1 ∨ j = 2 ∨ j = 3 ∨ j = 4 ∨ j = 5 ∨ j = 6 := by omega
    all_goals rfl
  refine (new_any _ _ _ _ _ hby (by omega)).mono ?_
  rintro e w2 ⟨gr, A2, c2, rfl, hgr, hrd, hbt, hb3, hA2⟩
  have hsz2 := HS2.out
  have HQ := Lib.hid (show RB (w.heap.size + 3) w2 gr 0 [b1, b2, b3, b4, b5, b6, b7] from ⟨A2, c2, hrd, hbt, fun b o s e => by
    obtain ⟨b', o', e', _⟩ := hbt.cells (by omega)
    rw [e'] at e
    cases e
    rw [← hsz2]
    exact hA2 _ _ e'⟩)
  clear hsz2 hA2
  have HL3 := Lib.hid (HL2.out.below hb3 HL2.out.lt)
  have HM6 := Lib.hid (HM4.out.below hb3 HM4.out.lt)
  have HM7 := Lib.hid (HM5.out.below hb3 HM5.out.lt)
  have HB3 := Lib.hid (HB2.out.trans (hb3.mono HB2.out.size))
  have HGR : Hid (w.heap.size + 3 ≤ gr ∧ gr < w2.heap.size) := ⟨by rw [← HS2.out]; exact hgr, hrd.lt⟩
  clear hby hrd hbt hb3 HL2 HM4 HM5 HB2 HS2 hgr
  refine hK.out _ _ (by show w2.cell? _ = _; rw [cell_of_row _ _ _ _ _ _ HL3.out]; rfl) (fun hHeld => ?_)
  clear hK K
  refine wpAnyL_ready (rs := [5]) (by kernel_rfl) (by simp) ?_
  refine (AllReadyL.cons rfl (fun K hK => ?_) AllReadyL.nil)
  go_simp
  refine hK.out _ _ hHeld (fun hHeld => ?_)
  clear hK K
  refine wpAnyL_ready (rs := [6]) (by kernel_rfl) (by simp) ?_
  refine AllReadyL.last rfl (fun K hK => ?_)
  go_simp
  refine hK.out _ _ ?_
  clear hK K
  refine wpAnyL_done (by kernel_rfl) ?_ _
  clear hHeld
  have S0 := Lib.hid (show GS w gr [b0, b1, b2, b3, b4, b5, b6, b7] #[.int .i64 10, .int .i64 0, .int .i64 0, .bool false, .bool false, .bool false, .bool false, .int .i64 0, .int .i64 0, .int .u8 0, .int .u8 0, .int .u8 0, .int .u8 0, .int .u8 0, .int .u8 0, .int .u8 0, .int .i64 0, .int .i64 0, .int .i64 0, .int .i64 0, .int .i64 0] 0 [b1, b2, b3, b4, b5, b6, b7] w2 from ⟨HB3.out, HL3.out, HM6.out, HM7.out, HQ.out, HGR.out⟩)
  clear HB3 HL3 HM6 HM7 HQ HGR
  have HT := Lib.hid (bT hr0 hr1)
  obtain ⟨hb1, hb2, hb3, hb4, hb5, hb6, hb7⟩ : (0 ≤ b1 ∧ b1 ≤ 255) ∧ (0 ≤ b2 ∧ b2 ≤ 255) ∧ (0 ≤ b3 ∧ b3 ≤ 255) ∧ (0 ≤ b4 ∧ b4 ≤ 255) ∧ (0 ≤ b5 ∧ b5 ≤ 255) ∧ (0 ≤ b6 ∧ b6 ≤ 255) ∧ (0 ≤ b7 ∧ b7 ≤ 255) := by simpa using HR.out
  go_wp2_with (fail)
  refine (getkey_any S0.out.hq S0.out.hg.2).mono ?_
  rw [(gk_line hb1 hb2 hb3).1, (gk_line hb1 hb2 hb3).2.1, (gk_line hb1 hb2 hb3).2.2.1, (gk_line hb1 hb2 hb3).2.2.2]
  rintro e w10 ⟨rfl, hq1, hg1⟩
  have R1 := Lib.hid (S0.out.step hq1 hg1)
  clear hq1 hg1
  have k2_fa := R1.out.off.cell 5
  have f2_fa := R1.out.off.frozen 5
  have k2_sz := R1.out.off.cell 7
  have f2_sz := R1.out.off.frozen 7
  have k2_n := R1.out.off.cell 8
  have f2_n := R1.out.off.frozen 8
  simp [lnA] at k2_fa k2_sz k2_n
  have R3 := Lib.hid ((((((R1.out).set 1 (.int .i64 (b1 + 256 * b2))).set 2 (.int .i64 (b3))).set 5 (.bool (bits BinOp.and IntKind.i64 b0 2 != 0))).set 8 (.int .i64 (wrap64 (4 - bits BinOp.and IntKind.i64 (b0 / 4) 3)))).cong (m' := #[.int .i64 10, .int .i64 (b1 + 256 * b2), .int .i64 (b3), .bool false, .bool false, .bool (true), .bool false, .int .i64 0, .int .i64 (4 - b0 / 4 % 4), .int .u8 0, .int .u8 0, .int .u8 0, .int .u8 0, .int .u8 0, .int .u8 0, .int .u8 0, .int .i64 0, .int .i64 0, .int .i64 0, .int .i64 0, .int .i64 0]) (by rw [HT.out.2.2.1, HT.out.2.2.2.2.2.1, decide_eq_true hf]; rfl))
  go_wp2_with (first | (refine wpList_store_two rfl (x := .tmp 90) (y := .tmp 86) rfl rfl rfl R1.out.hm info_key (by decide) rfl rfl ?_))
  · exfalso
    have h : (!(bits BinOp.and IntKind.i64 b0 2 != 0)) = true := by assumption
    rw [HT.out.2.2.1, decide_eq_true hf] at h
    simp at h
  generalize ((((w10.setCell ⟨w.heap.size + 1 + 1, 1, none⟩ (.int .i64 (b1 + 256 * b2))).setCell ⟨w.heap.size + 1 + 1, 2, none⟩ (.int .i64 (b3))).setCell ⟨w.heap.size + 1 + 1, 5, none⟩ (.bool (bits BinOp.and IntKind.i64 b0 2 != 0))).setCell ⟨w.heap.size + 1 + 1, 8, none⟩ (.int .i64 (wrap64 (4 - bits BinOp.and IntKind.i64 (b0 / 4) 3)))) = w24 at R3 ⊢
  have D4 := Lib.hid R3.out.drew
  refine wp_region_last (fun w' => w'.cell? ⟨w.heap.size + 1 + 1, 8, none⟩ = some (.int .i64 (4 - b0 / 4 % 4))) 6 (by kernel_rfl) ((D4.out.off.cell 8).trans rfl) ?_
  intro hHeld
  refine wpAnyL_take (i := 0) (v := ?_) rfl (by kernel_rfl) (by kernel_rfl) (by kernel_rfl) (by kernel_rfl) (by kernel_rfl) (fun _ _ _ h => h) (Or.inl ⟨by rfl, ?_⟩) (by assumption) ?_
  rotate_left
  · intro wq hSw; (try dsimp only at hSw); first | (go_simp; done) | (go_simp; with_reducible rfl) | with_reducible rfl
  try simp only [Act.put, List.setIfInBounds_toArray, List.set_cons_zero, List.set_cons_succ]
  refine wpAnyL_take (i := 1) (v := ?_) rfl (by kernel_rfl) (by kernel_rfl) (by kernel_rfl) (by kernel_rfl) (by kernel_rfl) (fun _ _ _ h => h) (Or.inl ⟨by rfl, ?_⟩) (by assumption) ?_
  rotate_left
  · intro wq hSw; (try dsimp only at hSw); first | (go_simp; done) | (go_simp; with_reducible rfl) | with_reducible rfl
  try simp only [Act.put, List.setIfInBounds_toArray, List.set_cons_zero, List.set_cons_succ]
  refine wpAnyL_take (i := 2) (v := ?_) rfl (by kernel_rfl) (by kernel_rfl) (by kernel_rfl) (by kernel_rfl) (by kernel_rfl) (fun _ _ _ h => h) (Or.inl ⟨by rfl, ?_⟩) (by assumption) ?_
  rotate_left
  · intro wq hSw; (try dsimp only at hSw); first | (go_simp; done) | (go_simp; with_reducible rfl) | with_reducible rfl
  try simp only [Act.put, List.setIfInBounds_toArray, List.set_cons_zero, List.set_cons_succ]
  refine wpAnyL_take (i := 3) (v := ?_) rfl (by kernel_rfl) (by kernel_rfl) (by kernel_rfl) (by kernel_rfl) (by kernel_rfl) (fun _ _ _ h => h) (Or.inl ⟨by rfl, ?_⟩) (by assumption) ?_
  rotate_left
  · intro wq hSw; (try dsimp only at hSw); first | (go_simp; done) | (go_simp; with_reducible rfl) | with_reducible rfl
  try simp only [Act.put, List.setIfInBounds_toArray, List.set_cons_zero, List.set_cons_succ]
  refine wpAnyL_take (i := 4) (v := ?_) rfl (by kernel_rfl) (by kernel_rfl) (by kernel_rfl) (by kernel_rfl) (by kernel_rfl) (fun _ _ _ h => h) (Or.inl ⟨by rfl, ?_⟩) (by assumption) ?_
  rotate_left
  · intro wq hSw; (try dsimp only at hSw); first | (go_simp; done) | (go_simp; with_reducible rfl) | with_reducible rfl
  try simp only [Act.put, List.setIfInBounds_toArray, List.set_cons_zero, List.set_cons_succ]
  refine wpAnyL_ready (rs := [5]) (by kernel_rfl) (by simp) ?_
  refine (AllReadyL.cons rfl (fun K hK => ?_) AllReadyL.nil)
  go_simp
  go_wp2_with fail
  refine (D4.out.hq.raw (by simp) _).mono ?_
  rw [rr_line (by omega) (by simp; omega)]
  rintro e w34 ⟨A34, c34, rfl, hB34, hg34⟩
  have E4 := Lib.hid (D4.out.goes hg34)
  have Y4 := Lib.hid hB34
  clear hB34 hg34
  refine hK.out _ _ ((E4.out.cell 8).trans rfl) (fun hHeld => ?_)
  clear hK K
  refine wpAnyL_ready (rs := [6]) (by kernel_rfl) (by simp) ?_
  refine AllReadyL.last rfl (fun K hK => ?_)
  refine Eq.mpr (if_pos (by kernel_rfl)) ?_
  refine wp_copy_row (.tmp 107) (.tmp 111) rfl rfl rfl Y4.out E4.out.hm (by simp) ?_
  intro w44 cur hm4 hs4 hc4 hg4
  have e4 := ms_copied (10) ((b1 + 256 * b2)) ((b3)) (false) (false) ((true)) (false) (0) ((4 - b0 / 4 % 4)) (0) (0) (0) (0) (0) hs4 hc4
  subst e4
  have R4 := Lib.hid (E4.out.keep E4.out.lt hg4 hm4)
  clear hm4 hs4 hc4 hg4
  refine hK.out _ _ ?_
  clear hK K
  refine wpAnyL_done (by kernel_rfl) ?_ _
  clear hHeld
  go_wp2_with (first
    | (refine wpList_load_row rfl 28 (.tmp 5) rfl (w.heap.size + 1 + 1) rfl _ #[.int .i64 10, .int .i64 (b1 + 256 * b2), .int .i64 (b3), .bool false, .bool false, .bool (true), .bool false, .int .i64 0, .int .i64 (4 - b0 / 4 % 4), .int .u8 (([b4, b5, b6, b7].take (4 - b0 / 4 % 4).toNat).getD 0 0), .int .u8 (([b4, b5, b6, b7].take (4 - b0 / 4 % 4).toNat).getD 1 0), .int .u8 (([b4, b5, b6, b7].take (4 - b0 / 4 % 4).toNat).getD 2 0), .int .u8 (([b4, b5, b6, b7].take (4 - b0 / 4 % 4).toNat).getD 3 0), .int .u8 (([b4, b5, b6, b7].take (4 - b0 / 4 % 4).toNat).getD 4 0), .int .u8 (([b4, b5, b6, b7].take (4 - b0 / 4 % 4).toNat).getD 5 0), .int .u8 (([b4, b5, b6, b7].take (4 - b0 / 4 % 4).toNat).getD 6 0), .int .i64 0, .int .i64 0, .int .i64 0, .int .i64 0, .int .i64 0] _ _ R4.out.hm Try.underlying28 rfl info_msg ?_)
    | (refine wpList_store_row rfl 28 (.tmp 4) (.tmp 146) rfl (w.heap.size + 1) #[.int .i64 10, .int .i64 (b1 + 256 * b2), .int .i64 (b3), .bool false, .bool false, .bool (true), .bool false, .int .i64 0, .int .i64 (4 - b0 / 4 % 4), .int .u8 (([b4, b5, b6, b7].take (4 - b0 / 4 % 4).toNat).getD 0 0), .int .u8 (([b4, b5, b6, b7].take (4 - b0 / 4 % 4).toNat).getD 1 0), .int .u8 (([b4, b5, b6, b7].take (4 - b0 / 4 % 4).toNat).getD 2 0), .int .u8 (([b4, b5, b6, b7].take (4 - b0 / 4 % 4).toNat).getD 3 0), .int .u8 (([b4, b5, b6, b7].take (4 - b0 / 4 % 4).toNat).getD 4 0), .int .u8 (([b4, b5, b6, b7].take (4 - b0 / 4 % 4).toNat).getD 5 0), .int .u8 (([b4, b5, b6, b7].take (4 - b0 / 4 % 4).toNat).getD 6 0), .int .i64 0, .int .i64 0, .int .i64 0, .int .i64 0, .int .i64 0] rfl rfl _ _ R4.out.hr info_msg rfl (one_msg (10) ((b1 + 256 * b2)) ((b3)) (false) (false) ((true)) (false) (0) ((4 - b0 / 4 % 4)) ((([b4, b5, b6, b7].take (4 - b0 / 4 % 4).toNat).getD 0 0)) ((([b4, b5, b6, b7].take (4 - b0 / 4 % 4).toNat).getD 1 0)) ((([b4, b5, b6, b7].take (4 - b0 / 4 % 4).toNat).getD 2 0)) ((([b4, b5, b6, b7].take (4 - b0 / 4 % 4).toNat).getD 3 0)) ((([b4, b5, b6, b7].take (4 - b0 / 4 % 4).toNat).getD 4 0)) ((([b4, b5, b6, b7].take (4 - b0 / 4 % 4).toNat).getD 5 0)) ((([b4, b5, b6, b7].take (4 - b0 / 4 % 4).toNat).getD 6 0)) (0) (0) (0) (0) (0)) ?_))
  exact bodyPost_ret (results_cell_row rfl _ _ (w.heap.size + 1) _ _ _ _ rfl (setRow_heap _ _ _ #[.int .i64 10, .int .i64 (b1 + 256 * b2), .int .i64 (b3), .bool false, .bool false, .bool (true), .bool false, .int .i64 0, .int .i64 (4 - b0 / 4 % 4), .int .u8 (([b4, b5, b6, b7].take (4 - b0 / 4 % 4).toNat).getD 0 0), .int .u8 (([b4, b5, b6, b7].take (4 - b0 / 4 % 4).toNat).getD 1 0), .int .u8 (([b4, b5, b6, b7].take (4 - b0 / 4 % 4).toNat).getD 2 0), .int .u8 (([b4, b5, b6, b7].take (4 - b0 / 4 % 4).toNat).getD 3 0), .int .u8 (([b4, b5, b6, b7].take (4 - b0 / 4 % 4).toNat).getD 4 0), .int .u8 (([b4, b5, b6, b7].take (4 - b0 / 4 % 4).toNat).getD 5 0), .int .u8 (([b4, b5, b6, b7].take (4 - b0 / 4 % 4).toNat).getD 6 0), .int .i64 0, .int .i64 0, .int .i64 0, .int .i64 0, .int .i64 0] _ _ R4.out.hr) Try.underlying28 rfl info_msg) rfl ⟨rfl, below_setRow R4.out.hb (by omega) _⟩
end Go.Proofs.Ytfccjekhdfpkoaa
