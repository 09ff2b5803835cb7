/- What get answers. -/
import Derived.Test.YtoamgdcjmkkmfaaKl2
namespace Go.Proofs.Ytoamgdcjmkkmfaa
open Go.RowKit
set_option linter.unusedSimpArgs false
set_option linter.unusedVariables false
set_option maxHeartbeats 4000000
set_option maxRecDepth 8000 in
theorem get_0 (b0 b1 b2 b3 b4 b5 b6 b7 : Int) (hr : (∀ x ∈ [b1, b2, b3, b4, b5, b6, b7], 0 ≤ x ∧ x ≤ 255) ∧ 0 ≤ b0 ∧ b0 ≤ 255) (w : World) : Calls Try.prog 7 #[.agg #[.int .u8 b0, .int .u8 b1, .int .u8 b2, .int .u8 b3, .int .u8 b4, .int .u8 b5, .int .u8 b6, .int .u8 b7], .int .i64 0] w fun e w' => e = .returned (.agg #[.int .i64 0, .int .i64 0, .int .i64 0, .bool false, .bool false, .bool false, .bool false, .int .i64 0, .int .i64 0, .int .u8 0, .int .u8 0, .int .u8 0, .int .u8 0, .int .u8 0, .int .u8 0, .int .u8 0, .int .i64 0, .int .i64 0, .int .i64 0, .int .i64 0, .int .i64 0]) ∧ Below w.heap.size w w' := by
  have HR := Lib.hid hr.1
  obtain ⟨hr0, hr1⟩ := hr.2
  clear hr
  go_enter Try.func7, Try.ntmps7
  have HP0 := Lib.hid (p1_start (w := w) (LV := #[.int .u8 b0, .int .u8 b1, .int .u8 b2, .int .u8 b3, .int .u8 b4, .int .u8 b5, .int .u8 b6, .int .u8 b7]) (bl := [b0, b1, b2, b3, b4, b5, b6, b7]) rfl rfl)
  have HP1 := Lib.hid (HP0.out.told #[.int .i64 0, .int .i64 0, .int .i64 0, .bool false, .bool false, .bool false, .bool false, .int .i64 0, .int .i64 0, .int .u8 0, .int .u8 0, .int .u8 0, .int .u8 0, .int .u8 0, .int .u8 0, .int .u8 0, .int .i64 0, .int .i64 0, .int .i64 0, .int .i64 0, .int .i64 0])
  go_wp2_with (refine wpList_store_row rfl 30 (.tmp 5) (.tmp 9) rfl (w.heap.size + 2) #[.int .i64 0, .int .i64 0, .int .i64 0, .bool false, .bool false, .bool false, .bool false, .int .i64 0, .int .i64 0, .int .u8 0, .int .u8 0, .int .u8 0, .int .u8 0, .int .u8 0, .int .u8 0, .int .u8 0, .int .i64 0, .int .i64 0, .int .i64 0, .int .i64 0, .int .i64 0] rfl rfl _ _ HP0.out.hm info_msg rfl (one_msg 0 0 0 false false false false 0 0 0 0 0 0 0 0 0 0 0 0 0 0) ?_)
  clear HP0
  go_wp2_with fail
  generalize _root_.Go.World.setRow _ (w.heap.size + 2) #[.int .i64 0, .int .i64 0, .int .i64 0, .bool false, .bool false, .bool false, .bool false, .int .i64 0, .int .i64 0, .int .u8 0, .int .u8 0, .int .u8 0, .int .u8 0, .int .u8 0, .int .u8 0, .int .u8 0, .int .i64 0, .int .i64 0, .int .i64 0, .int .i64 0, .int .i64 0] = w1 at *
  have HP := Lib.hid HP1.out.drew
  clear HP1
  refine wp_region_last (fun w' => w'.cell? ⟨w.heap.size, 0, none⟩ = some (.int .u8 b0)) 6 (by kernel_rfl) HP.out.first ?_
  intro hHeld
  refine wpAnyL_take (i := 0) (v := ?_) rfl (by kernel_rfl) (by kernel_rfl) (by kernel_rfl) (by kernel_rfl) (by kernel_rfl) (fun _ _ _ h => h) (Or.inl ⟨by rfl, ?_⟩) (by assumption) ?_
  rotate_left
  · intro wq hSw; (try dsimp only at hSw); first | (go_simp; done) | (go_simp; with_reducible rfl) | with_reducible rfl
  try simp only [Act.put, List.setIfInBounds_toArray, List.set_cons_zero, List.set_cons_succ]
  refine wpAnyL_take (i := 1) (v := ?_) rfl (by kernel_rfl) (by kernel_rfl) (by kernel_rfl) (by kernel_rfl) (by kernel_rfl) (fun _ _ _ h => h) (Or.inl ⟨by rfl, ?_⟩) (by assumption) ?_
  rotate_left
  · intro wq hSw; (try dsimp only at hSw); first | (go_simp; done) | (go_simp; with_reducible rfl) | with_reducible rfl
  try simp only [Act.put, List.setIfInBounds_toArray, List.set_cons_zero, List.set_cons_succ]
  refine wpAnyL_take (i := 2) (v := ?_) rfl (by kernel_rfl) (by kernel_rfl) (by kernel_rfl) (by kernel_rfl) (by kernel_rfl) (fun _ _ _ h => h) (Or.inl ⟨by rfl, ?_⟩) (by assumption) ?_
  rotate_left
  · intro wq hSw; (try dsimp only at hSw); first | (go_simp; done) | (go_simp; with_reducible rfl) | with_reducible rfl
  try simp only [Act.put, List.setIfInBounds_toArray, List.set_cons_zero, List.set_cons_succ]
  refine wpAnyL_take (i := 3) (v := ?_) rfl (by kernel_rfl) (by kernel_rfl) (by kernel_rfl) (by kernel_rfl) (by kernel_rfl) (fun _ _ _ h => h) (Or.inl ⟨by rfl, ?_⟩) (by assumption) ?_
  rotate_left
  · intro wq hSw; (try dsimp only at hSw); first | (go_simp; done) | (go_simp; with_reducible rfl) | with_reducible rfl
  try simp only [Act.put, List.setIfInBounds_toArray, List.set_cons_zero, List.set_cons_succ]
  refine wpAnyL_ready (rs := [4]) (by kernel_rfl) (by simp) ?_
  refine (AllReadyL.cons rfl (fun K hK => ?_) AllReadyL.nil)
  go_simp
  go_wp2_with fail
  refine (new_any _ _ _ _ _ (HP.out.byt HR.out) (by omega)).mono ?_
  rintro e w2 ⟨gr, A2, c2, rfl, hgr, hrd, hbt, hb3, hA2⟩
  have S0 := Lib.hid (HP.out.done (l := [b1, b2, b3, b4, b5, b6, b7]) (by simp) hgr hrd hbt hb3 hA2)
  clear hgr hrd hbt hb3 hA2 HP
  refine hK.out _ _ (S0.out.off.line 0) (fun hHeld => ?_)
  clear hK K
  refine wpAnyL_ready (rs := [5]) (by kernel_rfl) (by simp) ?_
  refine (AllReadyL.cons rfl (fun K hK => ?_) AllReadyL.nil)
  go_simp
  refine hK.out _ _ hHeld (fun hHeld => ?_)
  clear hK K
  refine wpAnyL_ready (rs := [6]) (by kernel_rfl) (by simp) ?_
  refine AllReadyL.last rfl (fun K hK => ?_)
  go_simp
  refine hK.out _ _ ?_
  clear hK K
  refine wpAnyL_done (by kernel_rfl) ?_ _
  clear hHeld
  have HT := Lib.hid (bT hr0 hr1)
  obtain ⟨hb1, hb2, hb3, hb4, hb5, hb6, hb7⟩ : (0 ≤ b1 ∧ b1 ≤ 255) ∧ (0 ≤ b2 ∧ b2 ≤ 255) ∧ (0 ≤ b3 ∧ b3 ≤ 255) ∧ (0 ≤ b4 ∧ b4 ≤ 255) ∧ (0 ≤ b5 ∧ b5 ≤ 255) ∧ (0 ≤ b6 ∧ b6 ≤ 255) ∧ (0 ≤ b7 ∧ b7 ≤ 255) := by simpa using HR.out
  go_wp2_with (first
    | (refine wpList_load_row rfl 30 (.tmp 5) rfl (w.heap.size + 1 + 1) rfl _ #[.int .i64 0, .int .i64 0, .int .i64 0, .bool false, .bool false, .bool false, .bool false, .int .i64 0, .int .i64 0, .int .u8 0, .int .u8 0, .int .u8 0, .int .u8 0, .int .u8 0, .int .u8 0, .int .u8 0, .int .i64 0, .int .i64 0, .int .i64 0, .int .i64 0, .int .i64 0] _ _ S0.out.hm Try.underlying30 rfl info_msg ?_)
    | (refine wpList_store_row rfl 30 (.tmp 4) (.tmp 146) rfl (w.heap.size + 1) #[.int .i64 0, .int .i64 0, .int .i64 0, .bool false, .bool false, .bool false, .bool false, .int .i64 0, .int .i64 0, .int .u8 0, .int .u8 0, .int .u8 0, .int .u8 0, .int .u8 0, .int .u8 0, .int .u8 0, .int .i64 0, .int .i64 0, .int .i64 0, .int .i64 0, .int .i64 0] rfl rfl _ _ S0.out.hr info_msg rfl (one_msg (0) (0) (0) (false) (false) (false) (false) (0) (0) (0) (0) (0) (0) (0) (0) (0) (0) (0) (0) (0) (0)) ?_))
  exact bodyPost_ret (results_cell_row rfl _ _ (w.heap.size + 1) _ _ _ _ rfl (setRow_heap _ _ _ #[.int .i64 0, .int .i64 0, .int .i64 0, .bool false, .bool false, .bool false, .bool false, .int .i64 0, .int .i64 0, .int .u8 0, .int .u8 0, .int .u8 0, .int .u8 0, .int .u8 0, .int .u8 0, .int .u8 0, .int .i64 0, .int .i64 0, .int .i64 0, .int .i64 0, .int .i64 0] _ _ S0.out.hr) Try.underlying30 rfl info_msg) rfl ⟨rfl, below_setRow S0.out.hb (by omega) _⟩
set_option maxRecDepth 8000 in
theorem get_4 (b0 b1 b2 b3 b4 b5 b6 b7 : Int) (hr : (∀ x ∈ [b1, b2, b3, b4, b5, b6, b7], 0 ≤ x ∧ x ≤ 255) ∧ 0 ≤ b0 ∧ b0 ≤ 255) (w : World) : Calls Try.prog 7 #[.agg #[.int .u8 b0, .int .u8 b1, .int .u8 b2, .int .u8 b3, .int .u8 b4, .int .u8 b5, .int .u8 b6, .int .u8 b7], .int .i64 4] w fun e w' => e = .returned (.agg #[.int .i64 4, .int .i64 0, .int .i64 0, .bool (decide (b0 / 16 % 2 = 1)), .bool false, .bool false, .bool false, .int .i64 0, .int .i64 0, .int .u8 0, .int .u8 0, .int .u8 0, .int .u8 0, .int .u8 0, .int .u8 0, .int .u8 0, .int .i64 0, .int .i64 0, .int .i64 0, .int .i64 0, .int .i64 0]) ∧ Below w.heap.size w w' := by
  have HR := Lib.hid hr.1
  obtain ⟨hr0, hr1⟩ := hr.2
  clear hr
  go_enter Try.func7, Try.ntmps7
  have HP0 := Lib.hid (p1_start (w := w) (LV := #[.int .u8 b0, .int .u8 b1, .int .u8 b2, .int .u8 b3, .int .u8 b4, .int .u8 b5, .int .u8 b6, .int .u8 b7]) (bl := [b0, b1, b2, b3, b4, b5, b6, b7]) rfl rfl)
  have HP1 := Lib.hid (HP0.out.told #[.int .i64 4, .int .i64 0, .int .i64 0, .bool false, .bool false, .bool false, .bool false, .int .i64 0, .int .i64 0, .int .u8 0, .int .u8 0, .int .u8 0, .int .u8 0, .int .u8 0, .int .u8 0, .int .u8 0, .int .i64 0, .int .i64 0, .int .i64 0, .int .i64 0, .int .i64 0])
  go_wp2_with (refine wpList_store_row rfl 30 (.tmp 5) (.tmp 9) rfl (w.heap.size + 2) #[.int .i64 4, .int .i64 0, .int .i64 0, .bool false, .bool false, .bool false, .bool false, .int .i64 0, .int .i64 0, .int .u8 0, .int .u8 0, .int .u8 0, .int .u8 0, .int .u8 0, .int .u8 0, .int .u8 0, .int .i64 0, .int .i64 0, .int .i64 0, .int .i64 0, .int .i64 0] rfl rfl _ _ HP0.out.hm info_msg rfl (one_msg 4 0 0 false false false false 0 0 0 0 0 0 0 0 0 0 0 0 0 0) ?_)
  clear HP0
  go_wp2_with fail
  generalize _root_.Go.World.setRow _ (w.heap.size + 2) #[.int .i64 4, .int .i64 0, .int .i64 0, .bool false, .bool false, .bool false, .bool false, .int .i64 0, .int .i64 0, .int .u8 0, .int .u8 0, .int .u8 0, .int .u8 0, .int .u8 0, .int .u8 0, .int .u8 0, .int .i64 0, .int .i64 0, .int .i64 0, .int .i64 0, .int .i64 0] = w1 at *
  have HP := Lib.hid HP1.out.drew
  clear HP1
  refine wp_region_last (fun w' => w'.cell? ⟨w.heap.size, 0, none⟩ = some (.int .u8 b0)) 6 (by kernel_rfl) HP.out.first ?_
  intro hHeld
  refine wpAnyL_take (i := 0) (v := ?_) rfl (by kernel_rfl) (by kernel_rfl) (by kernel_rfl) (by kernel_rfl) (by kernel_rfl) (fun _ _ _ h => h) (Or.inl ⟨by rfl, ?_⟩) (by assumption) ?_
  rotate_left
  · intro wq hSw; (try dsimp only at hSw); first | (go_simp; done) | (go_simp; with_reducible rfl) | with_reducible rfl
  try simp only [Act.put, List.setIfInBounds_toArray, List.set_cons_zero, List.set_cons_succ]
  refine wpAnyL_take (i := 1) (v := ?_) rfl (by kernel_rfl) (by kernel_rfl) (by kernel_rfl) (by kernel_rfl) (by kernel_rfl) (fun _ _ _ h => h) (Or.inl ⟨by rfl, ?_⟩) (by assumption) ?_
  rotate_left
  · intro wq hSw; (try dsimp only at hSw); first | (go_simp; done) | (go_simp; with_reducible rfl) | with_reducible rfl
  try simp only [Act.put, List.setIfInBounds_toArray, List.set_cons_zero, List.set_cons_succ]
  refine wpAnyL_take (i := 2) (v := ?_) rfl (by kernel_rfl) (by kernel_rfl) (by kernel_rfl) (by kernel_rfl) (by kernel_rfl) (fun _ _ _ h => h) (Or.inl ⟨by rfl, ?_⟩) (by assumption) ?_
  rotate_left
  · intro wq hSw; (try dsimp only at hSw); first | (go_simp; done) | (go_simp; with_reducible rfl) | with_reducible rfl
  try simp only [Act.put, List.setIfInBounds_toArray, List.set_cons_zero, List.set_cons_succ]
  refine wpAnyL_take (i := 3) (v := ?_) rfl (by kernel_rfl) (by kernel_rfl) (by kernel_rfl) (by kernel_rfl) (by kernel_rfl) (fun _ _ _ h => h) (Or.inl ⟨by rfl, ?_⟩) (by assumption) ?_
  rotate_left
  · intro wq hSw; (try dsimp only at hSw); first | (go_simp; done) | (go_simp; with_reducible rfl) | with_reducible rfl
  try simp only [Act.put, List.setIfInBounds_toArray, List.set_cons_zero, List.set_cons_succ]
  refine wpAnyL_ready (rs := [4]) (by kernel_rfl) (by simp) ?_
  refine (AllReadyL.cons rfl (fun K hK => ?_) AllReadyL.nil)
  go_simp
  go_wp2_with fail
  refine (new_any _ _ _ _ _ (HP.out.byt HR.out) (by omega)).mono ?_
  rintro e w2 ⟨gr, A2, c2, rfl, hgr, hrd, hbt, hb3, hA2⟩
  have S0 := Lib.hid (HP.out.done (l := [b1, b2, b3, b4, b5, b6, b7]) (by simp) hgr hrd hbt hb3 hA2)
  clear hgr hrd hbt hb3 hA2 HP
  refine hK.out _ _ (S0.out.off.line 0) (fun hHeld => ?_)
  clear hK K
  refine wpAnyL_ready (rs := [5]) (by kernel_rfl) (by simp) ?_
  refine (AllReadyL.cons rfl (fun K hK => ?_) AllReadyL.nil)
  go_simp
  refine hK.out _ _ hHeld (fun hHeld => ?_)
  clear hK K
  refine wpAnyL_ready (rs := [6]) (by kernel_rfl) (by simp) ?_
  refine AllReadyL.last rfl (fun K hK => ?_)
  go_simp
  refine hK.out _ _ ?_
  clear hK K
  refine wpAnyL_done (by kernel_rfl) ?_ _
  clear hHeld
  have HT := Lib.hid (bT hr0 hr1)
  obtain ⟨hb1, hb2, hb3, hb4, hb5, hb6, hb7⟩ : (0 ≤ b1 ∧ b1 ≤ 255) ∧ (0 ≤ b2 ∧ b2 ≤ 255) ∧ (0 ≤ b3 ∧ b3 ≤ 255) ∧ (0 ≤ b4 ∧ b4 ≤ 255) ∧ (0 ≤ b5 ∧ b5 ≤ 255) ∧ (0 ≤ b6 ∧ b6 ≤ 255) ∧ (0 ≤ b7 ∧ b7 ≤ 255) := by simpa using HR.out
  have k1_tg := S0.out.off.cell 3
  have f1_tg := S0.out.off.frozen 3
  simp [lnA] at k1_tg
  have R2 := Lib.hid (((S0.out).set 3 (.bool (bits BinOp.and IntKind.i64 b0 16 != 0))).cong (m' := #[.int .i64 4, .int .i64 0, .int .i64 0, .bool (decide (b0 / 16 % 2 = 1)), .bool false, .bool false, .bool false, .int .i64 0, .int .i64 0, .int .u8 0, .int .u8 0, .int .u8 0, .int .u8 0, .int .u8 0, .int .u8 0, .int .u8 0, .int .i64 0, .int .i64 0, .int .i64 0, .int .i64 0, .int .i64 0]) (by rw [HT.out.1]; rfl))
  go_wp2_with (first
    | (refine wpList_load_row rfl 30 (.tmp 5) rfl (w.heap.size + 1 + 1) rfl _ #[.int .i64 4, .int .i64 0, .int .i64 0, .bool (decide (b0 / 16 % 2 = 1)), .bool false, .bool false, .bool false, .int .i64 0, .int .i64 0, .int .u8 0, .int .u8 0, .int .u8 0, .int .u8 0, .int .u8 0, .int .u8 0, .int .u8 0, .int .i64 0, .int .i64 0, .int .i64 0, .int .i64 0, .int .i64 0] _ _ R2.out.hm Try.underlying30 rfl info_msg ?_)
    | (refine wpList_store_row rfl 30 (.tmp 4) (.tmp 146) rfl (w.heap.size + 1) #[.int .i64 4, .int .i64 0, .int .i64 0, .bool (decide (b0 / 16 % 2 = 1)), .bool false, .bool false, .bool false, .int .i64 0, .int .i64 0, .int .u8 0, .int .u8 0, .int .u8 0, .int .u8 0, .int .u8 0, .int .u8 0, .int .u8 0, .int .i64 0, .int .i64 0, .int .i64 0, .int .i64 0, .int .i64 0] rfl rfl _ _ R2.out.hr info_msg rfl (one_msg (4) (0) (0) ((decide (b0 / 16 % 2 = 1))) (false) (false) (false) (0) (0) (0) (0) (0) (0) (0) (0) (0) (0) (0) (0) (0) (0)) ?_))
  exact bodyPost_ret (results_cell_row rfl _ _ (w.heap.size + 1) _ _ _ _ rfl (setRow_heap _ _ _ #[.int .i64 4, .int .i64 0, .int .i64 0, .bool (decide (b0 / 16 % 2 = 1)), .bool false, .bool false, .bool false, .int .i64 0, .int .i64 0, .int .u8 0, .int .u8 0, .int .u8 0, .int .u8 0, .int .u8 0, .int .u8 0, .int .u8 0, .int .i64 0, .int .i64 0, .int .i64 0, .int .i64 0, .int .i64 0] _ _ R2.out.hr) Try.underlying30 rfl info_msg) rfl ⟨rfl, below_setRow R2.out.hb (by omega) _⟩
set_option maxRecDepth 8000 in
theorem get_15 (b0 b1 b2 b3 b4 b5 b6 b7 : Int) (hr : (∀ x ∈ [b1, b2, b3, b4, b5, b6, b7], 0 ≤ x ∧ x ≤ 255) ∧ 0 ≤ b0 ∧ b0 ≤ 255) (w : World) : Calls Try.prog 7 #[.agg #[.int .u8 b0, .int .u8 b1, .int .u8 b2, .int .u8 b3, .int .u8 b4, .int .u8 b5, .int .u8 b6, .int .u8 b7], .int .i64 15] w fun e w' => e = .returned (.agg #[.int .i64 15, .int .i64 0, .int .i64 0, .bool false, .bool false, .bool false, .bool false, .int .i64 0, .int .i64 0, .int .u8 0, .int .u8 0, .int .u8 0, .int .u8 0, .int .u8 0, .int .u8 0, .int .u8 0, .int .i64 0, .int .i64 (b1), .int .i64 (b2), .int .i64 0, .int .i64 0]) ∧ Below w.heap.size w w' := by
  have HR := Lib.hid hr.1
  obtain ⟨hr0, hr1⟩ := hr.2
  clear hr
  go_enter Try.func7, Try.ntmps7
  have HP0 := Lib.hid (p1_start (w := w) (LV := #[.int .u8 b0, .int .u8 b1, .int .u8 b2, .int .u8 b3, .int .u8 b4, .int .u8 b5, .int .u8 b6, .int .u8 b7]) (bl := [b0, b1, b2, b3, b4, b5, b6, b7]) rfl rfl)
  have HP1 := Lib.hid (HP0.out.told #[.int .i64 15, .int .i64 0, .int .i64 0, .bool false, .bool false, .bool false, .bool false, .int .i64 0, .int .i64 0, .int .u8 0, .int .u8 0, .int .u8 0, .int .u8 0, .int .u8 0, .int .u8 0, .int .u8 0, .int .i64 0, .int .i64 0, .int .i64 0, .int .i64 0, .int .i64 0])
  go_wp2_with (refine wpList_store_row rfl 30 (.tmp 5) (.tmp 9) rfl (w.heap.size + 2) #[.int .i64 15, .int .i64 0, .int .i64 0, .bool false, .bool false, .bool false, .bool false, .int .i64 0, .int .i64 0, .int .u8 0, .int .u8 0, .int .u8 0, .int .u8 0, .int .u8 0, .int .u8 0, .int .u8 0, .int .i64 0, .int .i64 0, .int .i64 0, .int .i64 0, .int .i64 0] rfl rfl _ _ HP0.out.hm info_msg rfl (one_msg 15 0 0 false false false false 0 0 0 0 0 0 0 0 0 0 0 0 0 0) ?_)
  clear HP0
  go_wp2_with fail
  generalize _root_.Go.World.setRow _ (w.heap.size + 2) #[.int .i64 15, .int .i64 0, .int .i64 0, .bool false, .bool false, .bool false, .bool false, .int .i64 0, .int .i64 0, .int .u8 0, .int .u8 0, .int .u8 0, .int .u8 0, .int .u8 0, .int .u8 0, .int .u8 0, .int .i64 0, .int .i64 0, .int .i64 0, .int .i64 0, .int .i64 0] = w1 at *
  have HP := Lib.hid HP1.out.drew
  clear HP1
  refine wp_region_last (fun w' => w'.cell? ⟨w.heap.size, 0, none⟩ = some (.int .u8 b0)) 6 (by kernel_rfl) HP.out.first ?_
  intro hHeld
  refine wpAnyL_take (i := 0) (v := ?_) rfl (by kernel_rfl) (by kernel_rfl) (by kernel_rfl) (by kernel_rfl) (by kernel_rfl) (fun _ _ _ h => h) (Or.inl ⟨by rfl, ?_⟩) (by assumption) ?_
  rotate_left
  · intro wq hSw; (try dsimp only at hSw); first | (go_simp; done) | (go_simp; with_reducible rfl) | with_reducible rfl
  try simp only [Act.put, List.setIfInBounds_toArray, List.set_cons_zero, List.set_cons_succ]
  refine wpAnyL_take (i := 1) (v := ?_) rfl (by kernel_rfl) (by kernel_rfl) (by kernel_rfl) (by kernel_rfl) (by kernel_rfl) (fun _ _ _ h => h) (Or.inl ⟨by rfl, ?_⟩) (by assumption) ?_
  rotate_left
  · intro wq hSw; (try dsimp only at hSw); first | (go_simp; done) | (go_simp; with_reducible rfl) | with_reducible rfl
  try simp only [Act.put, List.setIfInBounds_toArray, List.set_cons_zero, List.set_cons_succ]
  refine wpAnyL_take (i := 2) (v := ?_) rfl (by kernel_rfl) (by kernel_rfl) (by kernel_rfl) (by kernel_rfl) (by kernel_rfl) (fun _ _ _ h => h) (Or.inl ⟨by rfl, ?_⟩) (by assumption) ?_
  rotate_left
  · intro wq hSw; (try dsimp only at hSw); first | (go_simp; done) | (go_simp; with_reducible rfl) | with_reducible rfl
  try simp only [Act.put, List.setIfInBounds_toArray, List.set_cons_zero, List.set_cons_succ]
  refine wpAnyL_take (i := 3) (v := ?_) rfl (by kernel_rfl) (by kernel_rfl) (by kernel_rfl) (by kernel_rfl) (by kernel_rfl) (fun _ _ _ h => h) (Or.inl ⟨by rfl, ?_⟩) (by assumption) ?_
  rotate_left
  · intro wq hSw; (try dsimp only at hSw); first | (go_simp; done) | (go_simp; with_reducible rfl) | with_reducible rfl
  try simp only [Act.put, List.setIfInBounds_toArray, List.set_cons_zero, List.set_cons_succ]
  refine wpAnyL_ready (rs := [4]) (by kernel_rfl) (by simp) ?_
  refine (AllReadyL.cons rfl (fun K hK => ?_) AllReadyL.nil)
  go_simp
  go_wp2_with fail
  refine (new_any _ _ _ _ _ (HP.out.byt HR.out) (by omega)).mono ?_
  rintro e w2 ⟨gr, A2, c2, rfl, hgr, hrd, hbt, hb3, hA2⟩
  have S0 := Lib.hid (HP.out.done (l := [b1, b2, b3, b4, b5, b6, b7]) (by simp) hgr hrd hbt hb3 hA2)
  clear hgr hrd hbt hb3 hA2 HP
  refine hK.out _ _ (S0.out.off.line 0) (fun hHeld => ?_)
  clear hK K
  refine wpAnyL_ready (rs := [5]) (by kernel_rfl) (by simp) ?_
  refine (AllReadyL.cons rfl (fun K hK => ?_) AllReadyL.nil)
  go_simp
  refine hK.out _ _ hHeld (fun hHeld => ?_)
  clear hK K
  refine wpAnyL_ready (rs := [6]) (by kernel_rfl) (by simp) ?_
  refine AllReadyL.last rfl (fun K hK => ?_)
  go_simp
  refine hK.out _ _ ?_
  clear hK K
  refine wpAnyL_done (by kernel_rfl) ?_ _
  clear hHeld
  have HT := Lib.hid (bT hr0 hr1)
  obtain ⟨hb1, hb2, hb3, hb4, hb5, hb6, hb7⟩ : (0 ≤ b1 ∧ b1 ≤ 255) ∧ (0 ≤ b2 ∧ b2 ≤ 255) ∧ (0 ≤ b3 ∧ b3 ≤ 255) ∧ (0 ≤ b4 ∧ b4 ≤ 255) ∧ (0 ≤ b5 ∧ b5 ≤ 255) ∧ (0 ≤ b6 ∧ b6 ≤ 255) ∧ (0 ≤ b7 ∧ b7 ≤ 255) := by simpa using HR.out
  have k1_sq := S0.out.off.cell 17
  have f1_sq := S0.out.off.frozen 17
  have k1_bl := S0.out.off.cell 18
  have f1_bl := S0.out.off.frozen 18
  have l1_1 := S0.out.off.line 1
  have l1_2 := S0.out.off.line 2
  simp [lnA] at k1_sq k1_bl l1_1 l1_2
  have R2 := Lib.hid ((((S0.out).set 17 (.int .i64 (b1))).set 18 (.int .i64 (b2))).cong (m' := #[.int .i64 15, .int .i64 0, .int .i64 0, .bool false, .bool false, .bool false, .bool false, .int .i64 0, .int .i64 0, .int .u8 0, .int .u8 0, .int .u8 0, .int .u8 0, .int .u8 0, .int .u8 0, .int .u8 0, .int .i64 0, .int .i64 (b1), .int .i64 (b2), .int .i64 0, .int .i64 0]) (by rfl))
  go_wp2_with (first
    | (refine wpList_load_row rfl 30 (.tmp 5) rfl (w.heap.size + 1 + 1) rfl _ #[.int .i64 15, .int .i64 0, .int .i64 0, .bool false, .bool false, .bool false, .bool false, .int .i64 0, .int .i64 0, .int .u8 0, .int .u8 0, .int .u8 0, .int .u8 0, .int .u8 0, .int .u8 0, .int .u8 0, .int .i64 0, .int .i64 (b1), .int .i64 (b2), .int .i64 0, .int .i64 0] _ _ R2.out.hm Try.underlying30 rfl info_msg ?_)
    | (refine wpList_store_row rfl 30 (.tmp 4) (.tmp 146) rfl (w.heap.size + 1) #[.int .i64 15, .int .i64 0, .int .i64 0, .bool false, .bool false, .bool false, .bool false, .int .i64 0, .int .i64 0, .int .u8 0, .int .u8 0, .int .u8 0, .int .u8 0, .int .u8 0, .int .u8 0, .int .u8 0, .int .i64 0, .int .i64 (b1), .int .i64 (b2), .int .i64 0, .int .i64 0] rfl rfl _ _ R2.out.hr info_msg rfl (one_msg (15) (0) (0) (false) (false) (false) (false) (0) (0) (0) (0) (0) (0) (0) (0) (0) (0) ((b1)) ((b2)) (0) (0)) ?_))
  exact bodyPost_ret (results_cell_row rfl _ _ (w.heap.size + 1) _ _ _ _ rfl (setRow_heap _ _ _ #[.int .i64 15, .int .i64 0, .int .i64 0, .bool false, .bool false, .bool false, .bool false, .int .i64 0, .int .i64 0, .int .u8 0, .int .u8 0, .int .u8 0, .int .u8 0, .int .u8 0, .int .u8 0, .int .u8 0, .int .i64 0, .int .i64 (b1), .int .i64 (b2), .int .i64 0, .int .i64 0] _ _ R2.out.hr) Try.underlying30 rfl info_msg) rfl ⟨rfl, below_setRow R2.out.hb (by omega) _⟩
set_option maxRecDepth 8000 in
theorem get_16 (b0 b1 b2 b3 b4 b5 b6 b7 : Int) (hr : (∀ x ∈ [b1, b2, b3, b4, b5, b6, b7], 0 ≤ x ∧ x ≤ 255) ∧ 0 ≤ b0 ∧ b0 ≤ 255) (w : World) : Calls Try.prog 7 #[.agg #[.int .u8 b0, .int .u8 b1, .int .u8 b2, .int .u8 b3, .int .u8 b4, .int .u8 b5, .int .u8 b6, .int .u8 b7], .int .i64 16] w fun e w' => e = .returned (.agg #[.int .i64 16, .int .i64 0, .int .i64 0, .bool false, .bool false, .bool false, .bool false, .int .i64 0, .int .i64 0, .int .u8 0, .int .u8 0, .int .u8 0, .int .u8 0, .int .u8 0, .int .u8 0, .int .u8 0, .int .i64 0, .int .i64 0, .int .i64 0, .int .i64 (b0 / 4 % 8), .int .i64 (b1 + 256 * b2)]) ∧ Below w.heap.size w w' := by
  have HR := Lib.hid hr.1
  obtain ⟨hr0, hr1⟩ := hr.2
  clear hr
  go_enter Try.func7, Try.ntmps7
  have HP0 := Lib.hid (p1_start (w := w) (LV := #[.int .u8 b0, .int .u8 b1, .int .u8 b2, .int .u8 b3, .int .u8 b4, .int .u8 b5, .int .u8 b6, .int .u8 b7]) (bl := [b0, b1, b2, b3, b4, b5, b6, b7]) rfl rfl)
  have HP1 := Lib.hid (HP0.out.told #[.int .i64 16, .int .i64 0, .int .i64 0, .bool false, .bool false, .bool false, .bool false, .int .i64 0, .int .i64 0, .int .u8 0, .int .u8 0, .int .u8 0, .int .u8 0, .int .u8 0, .int .u8 0, .int .u8 0, .int .i64 0, .int .i64 0, .int .i64 0, .int .i64 0, .int .i64 0])
  go_wp2_with (refine wpList_store_row rfl 30 (.tmp 5) (.tmp 9) rfl (w.heap.size + 2) #[.int .i64 16, .int .i64 0, .int .i64 0, .bool false, .bool false, .bool false, .bool false, .int .i64 0, .int .i64 0, .int .u8 0, .int .u8 0, .int .u8 0, .int .u8 0, .int .u8 0, .int .u8 0, .int .u8 0, .int .i64 0, .int .i64 0, .int .i64 0, .int .i64 0, .int .i64 0] rfl rfl _ _ HP0.out.hm info_msg rfl (one_msg 16 0 0 false false false false 0 0 0 0 0 0 0 0 0 0 0 0 0 0) ?_)
  clear HP0
  go_wp2_with fail
  generalize _root_.Go.World.setRow _ (w.heap.size + 2) #[.int .i64 16, .int .i64 0, .int .i64 0, .bool false, .bool false, .bool false, .bool false, .int .i64 0, .int .i64 0, .int .u8 0, .int .u8 0, .int .u8 0, .int .u8 0, .int .u8 0, .int .u8 0, .int .u8 0, .int .i64 0, .int .i64 0, .int .i64 0, .int .i64 0, .int .i64 0] = w1 at *
  have HP := Lib.hid HP1.out.drew
  clear HP1
  refine wp_region_last (fun w' => w'.cell? ⟨w.heap.size, 0, none⟩ = some (.int .u8 b0)) 6 (by kernel_rfl) HP.out.first ?_
  intro hHeld
  refine wpAnyL_take (i := 0) (v := ?_) rfl (by kernel_rfl) (by kernel_rfl) (by kernel_rfl) (by kernel_rfl) (by kernel_rfl) (fun _ _ _ h => h) (Or.inl ⟨by rfl, ?_⟩) (by assumption) ?_
  rotate_left
  · intro wq hSw; (try dsimp only at hSw); first | (go_simp; done) | (go_simp; with_reducible rfl) | with_reducible rfl
  try simp only [Act.put, List.setIfInBounds_toArray, List.set_cons_zero, List.set_cons_succ]
  refine wpAnyL_take (i := 1) (v := ?_) rfl (by kernel_rfl) (by kernel_rfl) (by kernel_rfl) (by kernel_rfl) (by kernel_rfl) (fun _ _ _ h => h) (Or.inl ⟨by rfl, ?_⟩) (by assumption) ?_
  rotate_left
  · intro wq hSw; (try dsimp only at hSw); first | (go_simp; done) | (go_simp; with_reducible rfl) | with_reducible rfl
  try simp only [Act.put, List.setIfInBounds_toArray, List.set_cons_zero, List.set_cons_succ]
  refine wpAnyL_take (i := 2) (v := ?_) rfl (by kernel_rfl) (by kernel_rfl) (by kernel_rfl) (by kernel_rfl) (by kernel_rfl) (fun _ _ _ h => h) (Or.inl ⟨by rfl, ?_⟩) (by assumption) ?_
  rotate_left
  · intro wq hSw; (try dsimp only at hSw); first | (go_simp; done) | (go_simp; with_reducible rfl) | with_reducible rfl
  try simp only [Act.put, List.setIfInBounds_toArray, List.set_cons_zero, List.set_cons_succ]
  refine wpAnyL_take (i := 3) (v := ?_) rfl (by kernel_rfl) (by kernel_rfl) (by kernel_rfl) (by kernel_rfl) (by kernel_rfl) (fun _ _ _ h => h) (Or.inl ⟨by rfl, ?_⟩) (by assumption) ?_
  rotate_left
  · intro wq hSw; (try dsimp only at hSw); first | (go_simp; done) | (go_simp; with_reducible rfl) | with_reducible rfl
  try simp only [Act.put, List.setIfInBounds_toArray, List.set_cons_zero, List.set_cons_succ]
  refine wpAnyL_ready (rs := [4]) (by kernel_rfl) (by simp) ?_
  refine (AllReadyL.cons rfl (fun K hK => ?_) AllReadyL.nil)
  go_simp
  go_wp2_with fail
  refine (new_any _ _ _ _ _ (HP.out.byt HR.out) (by omega)).mono ?_
  rintro e w2 ⟨gr, A2, c2, rfl, hgr, hrd, hbt, hb3, hA2⟩
  have S0 := Lib.hid (HP.out.done (l := [b1, b2, b3, b4, b5, b6, b7]) (by simp) hgr hrd hbt hb3 hA2)
  clear hgr hrd hbt hb3 hA2 HP
  refine hK.out _ _ (S0.out.off.line 0) (fun hHeld => ?_)
  clear hK K
  refine wpAnyL_ready (rs := [5]) (by kernel_rfl) (by simp) ?_
  refine (AllReadyL.cons rfl (fun K hK => ?_) AllReadyL.nil)
  go_simp
  refine hK.out _ _ hHeld (fun hHeld => ?_)
  clear hK K
  refine wpAnyL_ready (rs := [6]) (by kernel_rfl) (by simp) ?_
  refine AllReadyL.last rfl (fun K hK => ?_)
  go_simp
  refine hK.out _ _ ?_
  clear hK K
  refine wpAnyL_done (by kernel_rfl) ?_ _
  clear hHeld
  have HT := Lib.hid (bT hr0 hr1)
  obtain ⟨hb1, hb2, hb3, hb4, hb5, hb6, hb7⟩ : (0 ≤ b1 ∧ b1 ≤ 255) ∧ (0 ≤ b2 ∧ b2 ≤ 255) ∧ (0 ≤ b3 ∧ b3 ≤ 255) ∧ (0 ≤ b4 ∧ b4 ≤ 255) ∧ (0 ≤ b5 ∧ b5 ≤ 255) ∧ (0 ≤ b6 ∧ b6 ≤ 255) ∧ (0 ≤ b7 ∧ b7 ≤ 255) := by simpa using HR.out
  go_wp2_with (fail)
  refine (S0.out.hq.num 3).mono ?_
  rintro e w10 ⟨rfl, hq1, hg1⟩
  have R1 := Lib.hid (S0.out.step hq1 hg1)
  clear hq1 hg1
  have k2_sp := R1.out.off.cell 19
  have f2_sp := R1.out.off.frozen 19
  have k2_cr := R1.out.off.cell 20
  have f2_cr := R1.out.off.frozen 20
  simp [lnA] at k2_sp k2_cr
  have R3 := Lib.hid ((((R1.out).set 19 (.int .i64 (bits BinOp.and IntKind.i64 (b0 / 4) 7))).set 20 (.int .i64 (rnN 0 3 [b1, b2, b3, b4, b5, b6, b7]))).cong (m' := #[.int .i64 16, .int .i64 0, .int .i64 0, .bool false, .bool false, .bool false, .bool false, .int .i64 0, .int .i64 0, .int .u8 0, .int .u8 0, .int .u8 0, .int .u8 0, .int .u8 0, .int .u8 0, .int .u8 0, .int .i64 0, .int .i64 0, .int .i64 0, .int .i64 (b0 / 4 % 8), .int .i64 (b1 + 256 * b2)]) (by rw [HT.out.2.2.2.2.2.2, (rn_u16 hb1 hb2).1]; rfl))
  go_wp2_with (first
    | (refine wpList_load_row rfl 30 (.tmp 5) rfl (w.heap.size + 1 + 1) rfl _ #[.int .i64 16, .int .i64 0, .int .i64 0, .bool false, .bool false, .bool false, .bool false, .int .i64 0, .int .i64 0, .int .u8 0, .int .u8 0, .int .u8 0, .int .u8 0, .int .u8 0, .int .u8 0, .int .u8 0, .int .i64 0, .int .i64 0, .int .i64 0, .int .i64 (b0 / 4 % 8), .int .i64 (b1 + 256 * b2)] _ _ R3.out.hm Try.underlying30 rfl info_msg ?_)
    | (refine wpList_store_row rfl 30 (.tmp 4) (.tmp 146) rfl (w.heap.size + 1) #[.int .i64 16, .int .i64 0, .int .i64 0, .bool false, .bool false, .bool false, .bool false, .int .i64 0, .int .i64 0, .int .u8 0, .int .u8 0, .int .u8 0, .int .u8 0, .int .u8 0, .int .u8 0, .int .u8 0, .int .i64 0, .int .i64 0, .int .i64 0, .int .i64 (b0 / 4 % 8), .int .i64 (b1 + 256 * b2)] rfl rfl _ _ R3.out.hr info_msg rfl (one_msg (16) (0) (0) (false) (false) (false) (false) (0) (0) (0) (0) (0) (0) (0) (0) (0) (0) (0) (0) ((b0 / 4 % 8)) ((b1 + 256 * b2))) ?_))
  exact bodyPost_ret (results_cell_row rfl _ _ (w.heap.size + 1) _ _ _ _ rfl (setRow_heap _ _ _ #[.int .i64 16, .int .i64 0, .int .i64 0, .bool false, .bool false, .bool false, .bool false, .int .i64 0, .int .i64 0, .int .u8 0, .int .u8 0, .int .u8 0, .int .u8 0, .int .u8 0, .int .u8 0, .int .u8 0, .int .i64 0, .int .i64 0, .int .i64 0, .int .i64 (b0 / 4 % 8), .int .i64 (b1 + 256 * b2)] _ _ R3.out.hr) Try.underlying30 rfl info_msg) rfl ⟨rfl, below_setRow R3.out.hb (by omega) _⟩
set_option maxRecDepth 8000 in
theorem get_7 (b0 b1 b2 b3 b4 b5 b6 b7 : Int) (hr : (∀ x ∈ [b1, b2, b3, b4, b5, b6, b7], 0 ≤ x ∧ x ≤ 255) ∧ 0 ≤ b0 ∧ b0 ≤ 255) (w : World) : Calls Try.prog 7 #[.agg #[.int .u8 b0, .int .u8 b1, .int .u8 b2, .int .u8 b3, .int .u8 b4, .int .u8 b5, .int .u8 b6, .int .u8 b7], .int .i64 7] w fun e w' => e = .returned (.agg #[.int .i64 7, .int .i64 0, .int .i64 0, .bool false, .bool false, .bool false, .bool false, .int .i64 0, .int .i64 0, .int .u8 0, .int .u8 0, .int .u8 0, .int .u8 0, .int .u8 0, .int .u8 0, .int .u8 0, .int .i64 0, .int .i64 0, .int .i64 0, .int .i64 0, .int .i64 0]) ∧ Below w.heap.size w w' := by
  have HR := Lib.hid hr.1
  obtain ⟨hr0, hr1⟩ := hr.2
  clear hr
  go_enter Try.func7, Try.ntmps7
  have HP0 := Lib.hid (p1_start (w := w) (LV := #[.int .u8 b0, .int .u8 b1, .int .u8 b2, .int .u8 b3, .int .u8 b4, .int .u8 b5, .int .u8 b6, .int .u8 b7]) (bl := [b0, b1, b2, b3, b4, b5, b6, b7]) rfl rfl)
  have HP1 := Lib.hid (HP0.out.told #[.int .i64 7, .int .i64 0, .int .i64 0, .bool false, .bool false, .bool false, .bool false, .int .i64 0, .int .i64 0, .int .u8 0, .int .u8 0, .int .u8 0, .int .u8 0, .int .u8 0, .int .u8 0, .int .u8 0, .int .i64 0, .int .i64 0, .int .i64 0, .int .i64 0, .int .i64 0])
  go_wp2_with (refine wpList_store_row rfl 30 (.tmp 5) (.tmp 9) rfl (w.heap.size + 2) #[.int .i64 7, .int .i64 0, .int .i64 0, .bool false, .bool false, .bool false, .bool false, .int .i64 0, .int .i64 0, .int .u8 0, .int .u8 0, .int .u8 0, .int .u8 0, .int .u8 0, .int .u8 0, .int .u8 0, .int .i64 0, .int .i64 0, .int .i64 0, .int .i64 0, .int .i64 0] rfl rfl _ _ HP0.out.hm info_msg rfl (one_msg 7 0 0 false false false false 0 0 0 0 0 0 0 0 0 0 0 0 0 0) ?_)
  clear HP0
  go_wp2_with fail
  generalize _root_.Go.World.setRow _ (w.heap.size + 2) #[.int .i64 7, .int .i64 0, .int .i64 0, .bool false, .bool false, .bool false, .bool false, .int .i64 0, .int .i64 0, .int .u8 0, .int .u8 0, .int .u8 0, .int .u8 0, .int .u8 0, .int .u8 0, .int .u8 0, .int .i64 0, .int .i64 0, .int .i64 0, .int .i64 0, .int .i64 0] = w1 at *
  have HP := Lib.hid HP1.out.drew
  clear HP1
  refine wp_region_last (fun w' => w'.cell? ⟨w.heap.size, 0, none⟩ = some (.int .u8 b0)) 6 (by kernel_rfl) HP.out.first ?_
  intro hHeld
  refine wpAnyL_take (i := 0) (v := ?_) rfl (by kernel_rfl) (by kernel_rfl) (by kernel_rfl) (by kernel_rfl) (by kernel_rfl) (fun _ _ _ h => h) (Or.inl ⟨by rfl, ?_⟩) (by assumption) ?_
  rotate_left
  · intro wq hSw; (try dsimp only at hSw); first | (go_simp; done) | (go_simp; with_reducible rfl) | with_reducible rfl
  try simp only [Act.put, List.setIfInBounds_toArray, List.set_cons_zero, List.set_cons_succ]
  refine wpAnyL_take (i := 1) (v := ?_) rfl (by kernel_rfl) (by kernel_rfl) (by kernel_rfl) (by kernel_rfl) (by kernel_rfl) (fun _ _ _ h => h) (Or.inl ⟨by rfl, ?_⟩) (by assumption) ?_
  rotate_left
  · intro wq hSw; (try dsimp only at hSw); first | (go_simp; done) | (go_simp; with_reducible rfl) | with_reducible rfl
  try simp only [Act.put, List.setIfInBounds_toArray, List.set_cons_zero, List.set_cons_succ]
  refine wpAnyL_take (i := 2) (v := ?_) rfl (by kernel_rfl) (by kernel_rfl) (by kernel_rfl) (by kernel_rfl) (by kernel_rfl) (fun _ _ _ h => h) (Or.inl ⟨by rfl, ?_⟩) (by assumption) ?_
  rotate_left
  · intro wq hSw; (try dsimp only at hSw); first | (go_simp; done) | (go_simp; with_reducible rfl) | with_reducible rfl
  try simp only [Act.put, List.setIfInBounds_toArray, List.set_cons_zero, List.set_cons_succ]
  refine wpAnyL_take (i := 3) (v := ?_) rfl (by kernel_rfl) (by kernel_rfl) (by kernel_rfl) (by kernel_rfl) (by kernel_rfl) (fun _ _ _ h => h) (Or.inl ⟨by rfl, ?_⟩) (by assumption) ?_
  rotate_left
  · intro wq hSw; (try dsimp only at hSw); first | (go_simp; done) | (go_simp; with_reducible rfl) | with_reducible rfl
  try simp only [Act.put, List.setIfInBounds_toArray, List.set_cons_zero, List.set_cons_succ]
  refine wpAnyL_ready (rs := [4]) (by kernel_rfl) (by simp) ?_
  refine (AllReadyL.cons rfl (fun K hK => ?_) AllReadyL.nil)
  go_simp
  go_wp2_with fail
  refine (new_any _ _ _ _ _ (HP.out.byt HR.out) (by omega)).mono ?_
  rintro e w2 ⟨gr, A2, c2, rfl, hgr, hrd, hbt, hb3, hA2⟩
  have S0 := Lib.hid (HP.out.done (l := [b1, b2, b3, b4, b5, b6, b7]) (by simp) hgr hrd hbt hb3 hA2)
  clear hgr hrd hbt hb3 hA2 HP
  refine hK.out _ _ (S0.out.off.line 0) (fun hHeld => ?_)
  clear hK K
  refine wpAnyL_ready (rs := [5]) (by kernel_rfl) (by simp) ?_
  refine (AllReadyL.cons rfl (fun K hK => ?_) AllReadyL.nil)
  go_simp
  refine hK.out _ _ hHeld (fun hHeld => ?_)
  clear hK K
  refine wpAnyL_ready (rs := [6]) (by kernel_rfl) (by simp) ?_
  refine AllReadyL.last rfl (fun K hK => ?_)
  go_simp
  refine hK.out _ _ ?_
  clear hK K
  refine wpAnyL_done (by kernel_rfl) ?_ _
  clear hHeld
  have HT := Lib.hid (bT hr0 hr1)
  obtain ⟨hb1, hb2, hb3, hb4, hb5, hb6, hb7⟩ : (0 ≤ b1 ∧ b1 ≤ 255) ∧ (0 ≤ b2 ∧ b2 ≤ 255) ∧ (0 ≤ b3 ∧ b3 ≤ 255) ∧ (0 ≤ b4 ∧ b4 ≤ 255) ∧ (0 ≤ b5 ∧ b5 ≤ 255) ∧ (0 ≤ b6 ∧ b6 ≤ 255) ∧ (0 ≤ b7 ∧ b7 ≤ 255) := by simpa using HR.out
  go_wp2_with (first
    | (refine wpList_load_row rfl 30 (.tmp 5) rfl (w.heap.size + 1 + 1) rfl _ #[.int .i64 7, .int .i64 0, .int .i64 0, .bool false, .bool false, .bool false, .bool false, .int .i64 0, .int .i64 0, .int .u8 0, .int .u8 0, .int .u8 0, .int .u8 0, .int .u8 0, .int .u8 0, .int .u8 0, .int .i64 0, .int .i64 0, .int .i64 0, .int .i64 0, .int .i64 0] _ _ S0.out.hm Try.underlying30 rfl info_msg ?_)
    | (refine wpList_store_row rfl 30 (.tmp 4) (.tmp 146) rfl (w.heap.size + 1) #[.int .i64 7, .int .i64 0, .int .i64 0, .bool false, .bool false, .bool false, .bool false, .int .i64 0, .int .i64 0, .int .u8 0, .int .u8 0, .int .u8 0, .int .u8 0, .int .u8 0, .int .u8 0, .int .u8 0, .int .i64 0, .int .i64 0, .int .i64 0, .int .i64 0, .int .i64 0] rfl rfl _ _ S0.out.hr info_msg rfl (one_msg (7) (0) (0) (false) (false) (false) (false) (0) (0) (0) (0) (0) (0) (0) (0) (0) (0) (0) (0) (0) (0)) ?_))
  exact bodyPost_ret (results_cell_row rfl _ _ (w.heap.size + 1) _ _ _ _ rfl (setRow_heap _ _ _ #[.int .i64 7, .int .i64 0, .int .i64 0, .bool false, .bool false, .bool false, .bool false, .int .i64 0, .int .i64 0, .int .u8 0, .int .u8 0, .int .u8 0, .int .u8 0, .int .u8 0, .int .u8 0, .int .u8 0, .int .i64 0, .int .i64 0, .int .i64 0, .int .i64 0, .int .i64 0] _ _ S0.out.hr) Try.underlying30 rfl info_msg) rfl ⟨rfl, below_setRow S0.out.hb (by omega) _⟩
end Go.Proofs.Ytoamgdcjmkkmfaa
