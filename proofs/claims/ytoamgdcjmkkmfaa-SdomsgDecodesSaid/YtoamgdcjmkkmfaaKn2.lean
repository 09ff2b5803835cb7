/- What get answers. -/
import Derived.Test.YtoamgdcjmkkmfaaKl2
namespace Go.Proofs.Ytoamgdcjmkkmfaa
open Go.RowKit
set_option linter.unusedSimpArgs false
set_option linter.unusedVariables false
set_option maxHeartbeats 4000000
set_option maxRecDepth 8000 in
theorem get_3 (b0 b1 b2 b3 b4 b5 b6 b7 : Int) (hr : (∀ x ∈ [b1, b2, b3, b4, b5, b6, b7], 0 ≤ x ∧ x ≤ 255) ∧ 0 ≤ b0 ∧ b0 ≤ 255) (w : World) : Calls Try.prog 7 #[.agg #[.int .u8 b0, .int .u8 b1, .int .u8 b2, .int .u8 b3, .int .u8 b4, .int .u8 b5, .int .u8 b6, .int .u8 b7], .int .i64 3] w fun e w' => e = .returned (.agg #[.int .i64 3, .int .i64 (b1 + 256 * b2), .int .i64 (b3), .bool false, .bool false, .bool false, .bool false, .int .i64 0, .int .i64 0, .int .u8 0, .int .u8 0, .int .u8 0, .int .u8 0, .int .u8 0, .int .u8 0, .int .u8 0, .int .i64 0, .int .i64 0, .int .i64 0, .int .i64 0, .int .i64 0]) ∧ Below w.heap.size w w' := by
  have HR := Lib.hid hr.1
  obtain ⟨hr0, hr1⟩ := hr.2
  clear hr
  go_enter Try.func7, Try.ntmps7
  have HP0 := Lib.hid (p1_start (w := w) (LV := #[.int .u8 b0, .int .u8 b1, .int .u8 b2, .int .u8 b3, .int .u8 b4, .int .u8 b5, .int .u8 b6, .int .u8 b7]) (bl := [b0, b1, b2, b3, b4, b5, b6, b7]) rfl rfl)
  have HP1 := Lib.hid (HP0.out.told #[.int .i64 3, .int .i64 0, .int .i64 0, .bool false, .bool false, .bool false, .bool false, .int .i64 0, .int .i64 0, .int .u8 0, .int .u8 0, .int .u8 0, .int .u8 0, .int .u8 0, .int .u8 0, .int .u8 0, .int .i64 0, .int .i64 0, .int .i64 0, .int .i64 0, .int .i64 0])
  go_wp2_with (refine wpList_store_row rfl 30 (.tmp 5) (.tmp 9) rfl (w.heap.size + 2) #[.int .i64 3, .int .i64 0, .int .i64 0, .bool false, .bool false, .bool false, .bool false, .int .i64 0, .int .i64 0, .int .u8 0, .int .u8 0, .int .u8 0, .int .u8 0, .int .u8 0, .int .u8 0, .int .u8 0, .int .i64 0, .int .i64 0, .int .i64 0, .int .i64 0, .int .i64 0] rfl rfl _ _ HP0.out.hm info_msg rfl (one_msg 3 0 0 false false false false 0 0 0 0 0 0 0 0 0 0 0 0 0 0) ?_)
  clear HP0
  go_wp2_with fail
  generalize _root_.Go.World.setRow _ (w.heap.size + 2) #[.int .i64 3, .int .i64 0, .int .i64 0, .bool false, .bool false, .bool false, .bool false, .int .i64 0, .int .i64 0, .int .u8 0, .int .u8 0, .int .u8 0, .int .u8 0, .int .u8 0, .int .u8 0, .int .u8 0, .int .i64 0, .int .i64 0, .int .i64 0, .int .i64 0, .int .i64 0] = w1 at *
  have HP := Lib.hid HP1.out.drew
  clear HP1
  refine wp_region_last (fun w' => w'.cell? ⟨w.heap.size, 0, none⟩ = some (.int .u8 b0)) 6 (by kernel_rfl) HP.out.first ?_
  intro hHeld
  refine wpAnyL_take (i := 0) (v := ?_) rfl (by kernel_rfl) (by kernel_rfl) (by kernel_rfl) (by kernel_rfl) (by kernel_rfl) (fun _ _ _ h => h) (Or.inl ⟨by rfl, ?_⟩) (by assumption) ?_
  rotate_left
  · intro wq hSw; (try dsimp only at hSw); first | (go_simp; done) | (go_simp; with_reducible rfl) | with_reducible rfl
  try simp only [Act.put, List.setIfInBounds_toArray, List.set_cons_zero, List.set_cons_succ]
  refine wpAnyL_take (i := 1) (v := ?_) rfl (by kernel_rfl) (by kernel_rfl) (by kernel_rfl) (by kernel_rfl) (by kernel_rfl) (fun _ _ _ h => h) (Or.inl ⟨by rfl, ?_⟩) (by assumption) ?_
  rotate_left
  · intro wq hSw; (try dsimp only at hSw); first | (go_simp; done) | (go_simp; with_reducible rfl) | with_reducible rfl
  try simp only [Act.put, List.setIfInBounds_toArray, List.set_cons_zero, List.set_cons_succ]
  refine wpAnyL_take (i := 2) (v := ?_) rfl (by kernel_rfl) (by kernel_rfl) (by kernel_rfl) (by kernel_rfl) (by kernel_rfl) (fun _ _ _ h => h) (Or.inl ⟨by rfl, ?_⟩) (by assumption) ?_
  rotate_left
  · intro wq hSw; (try dsimp only at hSw); first | (go_simp; done) | (go_simp; with_reducible rfl) | with_reducible rfl
  try simp only [Act.put, List.setIfInBounds_toArray, List.set_cons_zero, List.set_cons_succ]
  refine wpAnyL_take (i := 3) (v := ?_) rfl (by kernel_rfl) (by kernel_rfl) (by kernel_rfl) (by kernel_rfl) (by kernel_rfl) (fun _ _ _ h => h) (Or.inl ⟨by rfl, ?_⟩) (by assumption) ?_
  rotate_left
  · intro wq hSw; (try dsimp only at hSw); first | (go_simp; done) | (go_simp; with_reducible rfl) | with_reducible rfl
  try simp only [Act.put, List.setIfInBounds_toArray, List.set_cons_zero, List.set_cons_succ]
  refine wpAnyL_ready (rs := [4]) (by kernel_rfl) (by simp) ?_
  refine (AllReadyL.cons rfl (fun K hK => ?_) AllReadyL.nil)
  go_simp
  go_wp2_with fail
  refine (new_any _ _ _ _ _ (HP.out.byt HR.out) (by omega)).mono ?_
  rintro e w2 ⟨gr, A2, c2, rfl, hgr, hrd, hbt, hb3, hA2⟩
  have S0 := Lib.hid (HP.out.done (l := [b1, b2, b3, b4, b5, b6, b7]) (by simp) hgr hrd hbt hb3 hA2)
  clear hgr hrd hbt hb3 hA2 HP
  refine hK.out _ _ (S0.out.off.line 0) (fun hHeld => ?_)
  clear hK K
  refine wpAnyL_ready (rs := [5]) (by kernel_rfl) (by simp) ?_
  refine (AllReadyL.cons rfl (fun K hK => ?_) AllReadyL.nil)
  go_simp
  refine hK.out _ _ hHeld (fun hHeld => ?_)
  clear hK K
  refine wpAnyL_ready (rs := [6]) (by kernel_rfl) (by simp) ?_
  refine AllReadyL.last rfl (fun K hK => ?_)
  go_simp
  refine hK.out _ _ ?_
  clear hK K
  refine wpAnyL_done (by kernel_rfl) ?_ _
  clear hHeld
  have HT := Lib.hid (bT hr0 hr1)
  obtain ⟨hb1, hb2, hb3, hb4, hb5, hb6, hb7⟩ : (0 ≤ b1 ∧ b1 ≤ 255) ∧ (0 ≤ b2 ∧ b2 ≤ 255) ∧ (0 ≤ b3 ∧ b3 ≤ 255) ∧ (0 ≤ b4 ∧ b4 ≤ 255) ∧ (0 ≤ b5 ∧ b5 ≤ 255) ∧ (0 ≤ b6 ∧ b6 ≤ 255) ∧ (0 ≤ b7 ∧ b7 ≤ 255) := by simpa using HR.out
  go_wp2_with (fail)
  refine (getkey_any S0.out.hq S0.out.hg.2).mono ?_
  rw [(gk_line hb1 hb2 hb3).1, (gk_line hb1 hb2 hb3).2.1, (gk_line hb1 hb2 hb3).2.2.1, (gk_line hb1 hb2 hb3).2.2.2]
  rintro e w10 ⟨rfl, hq1, hg1⟩
  have R1 := Lib.hid (S0.out.step hq1 hg1)
  clear hq1 hg1
  have R2 := Lib.hid ((((R1.out).set 1 (.int .i64 (b1 + 256 * b2))).set 2 (.int .i64 (b3))).cong (m' := #[.int .i64 3, .int .i64 (b1 + 256 * b2), .int .i64 (b3), .bool false, .bool false, .bool false, .bool false, .int .i64 0, .int .i64 0, .int .u8 0, .int .u8 0, .int .u8 0, .int .u8 0, .int .u8 0, .int .u8 0, .int .u8 0, .int .i64 0, .int .i64 0, .int .i64 0, .int .i64 0, .int .i64 0]) (by rfl))
  go_wp2_with (first
    | (refine wpList_store_two rfl (x := .tmp 145) (y := .tmp 144) rfl rfl rfl R1.out.hm info_key (by decide) rfl rfl ?_)
    | (refine wpList_load_row rfl 30 (.tmp 5) rfl (w.heap.size + 1 + 1) rfl _ #[.int .i64 3, .int .i64 (b1 + 256 * b2), .int .i64 (b3), .bool false, .bool false, .bool false, .bool false, .int .i64 0, .int .i64 0, .int .u8 0, .int .u8 0, .int .u8 0, .int .u8 0, .int .u8 0, .int .u8 0, .int .u8 0, .int .i64 0, .int .i64 0, .int .i64 0, .int .i64 0, .int .i64 0] _ _ R2.out.hm Try.underlying30 rfl info_msg ?_)
    | (refine wpList_store_row rfl 30 (.tmp 4) (.tmp 146) rfl (w.heap.size + 1) #[.int .i64 3, .int .i64 (b1 + 256 * b2), .int .i64 (b3), .bool false, .bool false, .bool false, .bool false, .int .i64 0, .int .i64 0, .int .u8 0, .int .u8 0, .int .u8 0, .int .u8 0, .int .u8 0, .int .u8 0, .int .u8 0, .int .i64 0, .int .i64 0, .int .i64 0, .int .i64 0, .int .i64 0] rfl rfl _ _ R2.out.hr info_msg rfl (one_msg (3) ((b1 + 256 * b2)) ((b3)) (false) (false) (false) (false) (0) (0) (0) (0) (0) (0) (0) (0) (0) (0) (0) (0) (0) (0)) ?_))
  exact bodyPost_ret (results_cell_row rfl _ _ (w.heap.size + 1) _ _ _ _ rfl (setRow_heap _ _ _ #[.int .i64 3, .int .i64 (b1 + 256 * b2), .int .i64 (b3), .bool false, .bool false, .bool false, .bool false, .int .i64 0, .int .i64 0, .int .u8 0, .int .u8 0, .int .u8 0, .int .u8 0, .int .u8 0, .int .u8 0, .int .u8 0, .int .i64 0, .int .i64 0, .int .i64 0, .int .i64 0, .int .i64 0] _ _ R2.out.hr) Try.underlying30 rfl info_msg) rfl ⟨rfl, below_setRow R2.out.hb (by omega) _⟩
set_option maxRecDepth 8000 in
theorem get_5 (b0 b1 b2 b3 b4 b5 b6 b7 : Int) (hr : (∀ x ∈ [b1, b2, b3, b4, b5, b6, b7], 0 ≤ x ∧ x ≤ 255) ∧ 0 ≤ b0 ∧ b0 ≤ 255) (w : World) : Calls Try.prog 7 #[.agg #[.int .u8 b0, .int .u8 b1, .int .u8 b2, .int .u8 b3, .int .u8 b4, .int .u8 b5, .int .u8 b6, .int .u8 b7], .int .i64 5] w fun e w' => e = .returned (.agg #[.int .i64 5, .int .i64 (b1 + 256 * b2), .int .i64 (b3), .bool false, .bool false, .bool false, .bool (decide (b0 / 4 % 2 = 1)), .int .i64 (gsN (decide (b0 / 2 % 2 = 1)) 0 [b4, b5, b6, b7]), .int .i64 0, .int .u8 0, .int .u8 0, .int .u8 0, .int .u8 0, .int .u8 0, .int .u8 0, .int .u8 0, .int .i64 0, .int .i64 0, .int .i64 0, .int .i64 0, .int .i64 0]) ∧ Below w.heap.size w w' := by
  have HR := Lib.hid hr.1
  obtain ⟨hr0, hr1⟩ := hr.2
  clear hr
  go_enter Try.func7, Try.ntmps7
  have HP0 := Lib.hid (p1_start (w := w) (LV := #[.int .u8 b0, .int .u8 b1, .int .u8 b2, .int .u8 b3, .int .u8 b4, .int .u8 b5, .int .u8 b6, .int .u8 b7]) (bl := [b0, b1, b2, b3, b4, b5, b6, b7]) rfl rfl)
  have HP1 := Lib.hid (HP0.out.told #[.int .i64 5, .int .i64 0, .int .i64 0, .bool false, .bool false, .bool false, .bool false, .int .i64 0, .int .i64 0, .int .u8 0, .int .u8 0, .int .u8 0, .int .u8 0, .int .u8 0, .int .u8 0, .int .u8 0, .int .i64 0, .int .i64 0, .int .i64 0, .int .i64 0, .int .i64 0])
  go_wp2_with (refine wpList_store_row rfl 30 (.tmp 5) (.tmp 9) rfl (w.heap.size + 2) #[.int .i64 5, .int .i64 0, .int .i64 0, .bool false, .bool false, .bool false, .bool false, .int .i64 0, .int .i64 0, .int .u8 0, .int .u8 0, .int .u8 0, .int .u8 0, .int .u8 0, .int .u8 0, .int .u8 0, .int .i64 0, .int .i64 0, .int .i64 0, .int .i64 0, .int .i64 0] rfl rfl _ _ HP0.out.hm info_msg rfl (one_msg 5 0 0 false false false false 0 0 0 0 0 0 0 0 0 0 0 0 0 0) ?_)
  clear HP0
  go_wp2_with fail
  generalize _root_.Go.World.setRow _ (w.heap.size + 2) #[.int .i64 5, .int .i64 0, .int .i64 0, .bool false, .bool false, .bool false, .bool false, .int .i64 0, .int .i64 0, .int .u8 0, .int .u8 0, .int .u8 0, .int .u8 0, .int .u8 0, .int .u8 0, .int .u8 0, .int .i64 0, .int .i64 0, .int .i64 0, .int .i64 0, .int .i64 0] = w1 at *
  have HP := Lib.hid HP1.out.drew
  clear HP1
  refine wp_region_last (fun w' => w'.cell? ⟨w.heap.size, 0, none⟩ = some (.int .u8 b0)) 6 (by kernel_rfl) HP.out.first ?_
  intro hHeld
  refine wpAnyL_take (i := 0) (v := ?_) rfl (by kernel_rfl) (by kernel_rfl) (by kernel_rfl) (by kernel_rfl) (by kernel_rfl) (fun _ _ _ h => h) (Or.inl ⟨by rfl, ?_⟩) (by assumption) ?_
  rotate_left
  · intro wq hSw; (try dsimp only at hSw); first | (go_simp; done) | (go_simp; with_reducible rfl) | with_reducible rfl
  try simp only [Act.put, List.setIfInBounds_toArray, List.set_cons_zero, List.set_cons_succ]
  refine wpAnyL_take (i := 1) (v := ?_) rfl (by kernel_rfl) (by kernel_rfl) (by kernel_rfl) (by kernel_rfl) (by kernel_rfl) (fun _ _ _ h => h) (Or.inl ⟨by rfl, ?_⟩) (by assumption) ?_
  rotate_left
  · intro wq hSw; (try dsimp only at hSw); first | (go_simp; done) | (go_simp; with_reducible rfl) | with_reducible rfl
  try simp only [Act.put, List.setIfInBounds_toArray, List.set_cons_zero, List.set_cons_succ]
  refine wpAnyL_take (i := 2) (v := ?_) rfl (by kernel_rfl) (by kernel_rfl) (by kernel_rfl) (by kernel_rfl) (by kernel_rfl) (fun _ _ _ h => h) (Or.inl ⟨by rfl, ?_⟩) (by assumption) ?_
  rotate_left
  · intro wq hSw; (try dsimp only at hSw); first | (go_simp; done) | (go_simp; with_reducible rfl) | with_reducible rfl
  try simp only [Act.put, List.setIfInBounds_toArray, List.set_cons_zero, List.set_cons_succ]
  refine wpAnyL_take (i := 3) (v := ?_) rfl (by kernel_rfl) (by kernel_rfl) (by kernel_rfl) (by kernel_rfl) (by kernel_rfl) (fun _ _ _ h => h) (Or.inl ⟨by rfl, ?_⟩) (by assumption) ?_
  rotate_left
  · intro wq hSw; (try dsimp only at hSw); first | (go_simp; done) | (go_simp; with_reducible rfl) | with_reducible rfl
  try simp only [Act.put, List.setIfInBounds_toArray, List.set_cons_zero, List.set_cons_succ]
  refine wpAnyL_ready (rs := [4]) (by kernel_rfl) (by simp) ?_
  refine (AllReadyL.cons rfl (fun K hK => ?_) AllReadyL.nil)
  go_simp
  go_wp2_with fail
  refine (new_any _ _ _ _ _ (HP.out.byt HR.out) (by omega)).mono ?_
  rintro e w2 ⟨gr, A2, c2, rfl, hgr, hrd, hbt, hb3, hA2⟩
  have S0 := Lib.hid (HP.out.done (l := [b1, b2, b3, b4, b5, b6, b7]) (by simp) hgr hrd hbt hb3 hA2)
  clear hgr hrd hbt hb3 hA2 HP
  refine hK.out _ _ (S0.out.off.line 0) (fun hHeld => ?_)
  clear hK K
  refine wpAnyL_ready (rs := [5]) (by kernel_rfl) (by simp) ?_
  refine (AllReadyL.cons rfl (fun K hK => ?_) AllReadyL.nil)
  go_simp
  refine hK.out _ _ hHeld (fun hHeld => ?_)
  clear hK K
  refine wpAnyL_ready (rs := [6]) (by kernel_rfl) (by simp) ?_
  refine AllReadyL.last rfl (fun K hK => ?_)
  go_simp
  refine hK.out _ _ ?_
  clear hK K
  refine wpAnyL_done (by kernel_rfl) ?_ _
  clear hHeld
  have HT := Lib.hid (bT hr0 hr1)
  obtain ⟨hb1, hb2, hb3, hb4, hb5, hb6, hb7⟩ : (0 ≤ b1 ∧ b1 ≤ 255) ∧ (0 ≤ b2 ∧ b2 ≤ 255) ∧ (0 ≤ b3 ∧ b3 ≤ 255) ∧ (0 ≤ b4 ∧ b4 ≤ 255) ∧ (0 ≤ b5 ∧ b5 ≤ 255) ∧ (0 ≤ b6 ∧ b6 ≤ 255) ∧ (0 ≤ b7 ∧ b7 ≤ 255) := by simpa using HR.out
  go_wp2_with (fail)
  refine (getkey_any S0.out.hq S0.out.hg.2).mono ?_
  rw [(gk_line hb1 hb2 hb3).1, (gk_line hb1 hb2 hb3).2.1, (gk_line hb1 hb2 hb3).2.2.1, (gk_line hb1 hb2 hb3).2.2.2]
  rintro e w10 ⟨rfl, hq1, hg1⟩
  have R1 := Lib.hid (S0.out.step hq1 hg1)
  clear hq1 hg1
  have k2_su := R1.out.off.cell 6
  have f2_su := R1.out.off.frozen 6
  simp [lnA] at k2_su
  have R3 := Lib.hid (((((R1.out).set 1 (.int .i64 (b1 + 256 * b2))).set 2 (.int .i64 (b3))).set 6 (.bool (bits BinOp.and IntKind.i64 b0 4 != 0))).cong (m' := #[.int .i64 5, .int .i64 (b1 + 256 * b2), .int .i64 (b3), .bool false, .bool false, .bool false, .bool (decide (b0 / 4 % 2 = 1)), .int .i64 0, .int .i64 0, .int .u8 0, .int .u8 0, .int .u8 0, .int .u8 0, .int .u8 0, .int .u8 0, .int .u8 0, .int .i64 0, .int .i64 0, .int .i64 0, .int .i64 0, .int .i64 0]) (by rw [HT.out.2.2.2.1]; rfl))
  go_wp2_with (first | (refine wpList_store_two rfl (x := .tmp 118) (y := .tmp 114) rfl rfl rfl R1.out.hm info_key (by decide) rfl rfl ?_))
  refine (getsize_any R3.out.hq (bits BinOp.and IntKind.i64 b0 2 != 0)).mono ?_
  rintro e w13 ⟨rfl, hg4⟩
  have R4 := Lib.hid (R3.out.goes hg4)
  clear hg4
  have k5_sz := R4.out.cell 7
  have f5_sz := R4.out.frozen 7
  simp [lnA] at k5_sz
  have R6 := Lib.hid (((R4.out).set 7 (.int .i64 (gsN (bits BinOp.and IntKind.i64 b0 2 != 0) 0 [b4, b5, b6, b7]))).cong (m' := #[.int .i64 5, .int .i64 (b1 + 256 * b2), .int .i64 (b3), .bool false, .bool false, .bool false, .bool (decide (b0 / 4 % 2 = 1)), .int .i64 (gsN (decide (b0 / 2 % 2 = 1)) 0 [b4, b5, b6, b7]), .int .i64 0, .int .u8 0, .int .u8 0, .int .u8 0, .int .u8 0, .int .u8 0, .int .u8 0, .int .u8 0, .int .i64 0, .int .i64 0, .int .i64 0, .int .i64 0, .int .i64 0]) (by rw [HT.out.2.2.1]; rfl))
  go_wp2_with (first
    | (refine wpList_load_row rfl 30 (.tmp 5) rfl (w.heap.size + 1 + 1) rfl _ #[.int .i64 5, .int .i64 (b1 + 256 * b2), .int .i64 (b3), .bool false, .bool false, .bool false, .bool (decide (b0 / 4 % 2 = 1)), .int .i64 (gsN (decide (b0 / 2 % 2 = 1)) 0 [b4, b5, b6, b7]), .int .i64 0, .int .u8 0, .int .u8 0, .int .u8 0, .int .u8 0, .int .u8 0, .int .u8 0, .int .u8 0, .int .i64 0, .int .i64 0, .int .i64 0, .int .i64 0, .int .i64 0] _ _ R6.out.hm Try.underlying30 rfl info_msg ?_)
    | (refine wpList_store_row rfl 30 (.tmp 4) (.tmp 146) rfl (w.heap.size + 1) #[.int .i64 5, .int .i64 (b1 + 256 * b2), .int .i64 (b3), .bool false, .bool false, .bool false, .bool (decide (b0 / 4 % 2 = 1)), .int .i64 (gsN (decide (b0 / 2 % 2 = 1)) 0 [b4, b5, b6, b7]), .int .i64 0, .int .u8 0, .int .u8 0, .int .u8 0, .int .u8 0, .int .u8 0, .int .u8 0, .int .u8 0, .int .i64 0, .int .i64 0, .int .i64 0, .int .i64 0, .int .i64 0] rfl rfl _ _ R6.out.hr info_msg rfl (one_msg (5) ((b1 + 256 * b2)) ((b3)) (false) (false) (false) ((decide (b0 / 4 % 2 = 1))) ((gsN (decide (b0 / 2 % 2 = 1)) 0 [b4, b5, b6, b7])) (0) (0) (0) (0) (0) (0) (0) (0) (0) (0) (0) (0) (0)) ?_))
  exact bodyPost_ret (results_cell_row rfl _ _ (w.heap.size + 1) _ _ _ _ rfl (setRow_heap _ _ _ #[.int .i64 5, .int .i64 (b1 + 256 * b2), .int .i64 (b3), .bool false, .bool false, .bool false, .bool (decide (b0 / 4 % 2 = 1)), .int .i64 (gsN (decide (b0 / 2 % 2 = 1)) 0 [b4, b5, b6, b7]), .int .i64 0, .int .u8 0, .int .u8 0, .int .u8 0, .int .u8 0, .int .u8 0, .int .u8 0, .int .u8 0, .int .i64 0, .int .i64 0, .int .i64 0, .int .i64 0, .int .i64 0] _ _ R6.out.hr) Try.underlying30 rfl info_msg) rfl ⟨rfl, below_setRow R6.out.hb (by omega) _⟩
set_option maxRecDepth 8000 in
theorem get_14 (b0 b1 b2 b3 b4 b5 b6 b7 : Int) (hr : (∀ x ∈ [b1, b2, b3, b4, b5, b6, b7], 0 ≤ x ∧ x ≤ 255) ∧ 0 ≤ b0 ∧ b0 ≤ 255) (w : World) : Calls Try.prog 7 #[.agg #[.int .u8 b0, .int .u8 b1, .int .u8 b2, .int .u8 b3, .int .u8 b4, .int .u8 b5, .int .u8 b6, .int .u8 b7], .int .i64 14] w fun e w' => e = .returned (.agg #[.int .i64 14, .int .i64 (b1 + 256 * b2), .int .i64 (b3), .bool false, .bool false, .bool false, .bool false, .int .i64 0, .int .i64 0, .int .u8 0, .int .u8 0, .int .u8 0, .int .u8 0, .int .u8 0, .int .u8 0, .int .u8 0, .int .i64 (b4 + 256 * b5 + 65536 * b6 + 16777216 * b7), .int .i64 0, .int .i64 0, .int .i64 0, .int .i64 0]) ∧ Below w.heap.size w w' := by
  have HR := Lib.hid hr.1
  obtain ⟨hr0, hr1⟩ := hr.2
  clear hr
  go_enter Try.func7, Try.ntmps7
  have HP0 := Lib.hid (p1_start (w := w) (LV := #[.int .u8 b0, .int .u8 b1, .int .u8 b2, .int .u8 b3, .int .u8 b4, .int .u8 b5, .int .u8 b6, .int .u8 b7]) (bl := [b0, b1, b2, b3, b4, b5, b6, b7]) rfl rfl)
  have HP1 := Lib.hid (HP0.out.told #[.int .i64 14, .int .i64 0, .int .i64 0, .bool false, .bool false, .bool false, .bool false, .int .i64 0, .int .i64 0, .int .u8 0, .int .u8 0, .int .u8 0, .int .u8 0, .int .u8 0, .int .u8 0, .int .u8 0, .int .i64 0, .int .i64 0, .int .i64 0, .int .i64 0, .int .i64 0])
  go_wp2_with (refine wpList_store_row rfl 30 (.tmp 5) (.tmp 9) rfl (w.heap.size + 2) #[.int .i64 14, .int .i64 0, .int .i64 0, .bool false, .bool false, .bool false, .bool false, .int .i64 0, .int .i64 0, .int .u8 0, .int .u8 0, .int .u8 0, .int .u8 0, .int .u8 0, .int .u8 0, .int .u8 0, .int .i64 0, .int .i64 0, .int .i64 0, .int .i64 0, .int .i64 0] rfl rfl _ _ HP0.out.hm info_msg rfl (one_msg 14 0 0 false false false false 0 0 0 0 0 0 0 0 0 0 0 0 0 0) ?_)
  clear HP0
  go_wp2_with fail
  generalize _root_.Go.World.setRow _ (w.heap.size + 2) #[.int .i64 14, .int .i64 0, .int .i64 0, .bool false, .bool false, .bool false, .bool false, .int .i64 0, .int .i64 0, .int .u8 0, .int .u8 0, .int .u8 0, .int .u8 0, .int .u8 0, .int .u8 0, .int .u8 0, .int .i64 0, .int .i64 0, .int .i64 0, .int .i64 0, .int .i64 0] = w1 at *
  have HP := Lib.hid HP1.out.drew
  clear HP1
  refine wp_region_last (fun w' => w'.cell? ⟨w.heap.size, 0, none⟩ = some (.int .u8 b0)) 6 (by kernel_rfl) HP.out.first ?_
  intro hHeld
  refine wpAnyL_take (i := 0) (v := ?_) rfl (by kernel_rfl) (by kernel_rfl) (by kernel_rfl) (by kernel_rfl) (by kernel_rfl) (fun _ _ _ h => h) (Or.inl ⟨by rfl, ?_⟩) (by assumption) ?_
  rotate_left
  · intro wq hSw; (try dsimp only at hSw); first | (go_simp; done) | (go_simp; with_reducible rfl) | with_reducible rfl
  try simp only [Act.put, List.setIfInBounds_toArray, List.set_cons_zero, List.set_cons_succ]
  refine wpAnyL_take (i := 1) (v := ?_) rfl (by kernel_rfl) (by kernel_rfl) (by kernel_rfl) (by kernel_rfl) (by kernel_rfl) (fun _ _ _ h => h) (Or.inl ⟨by rfl, ?_⟩) (by assumption) ?_
  rotate_left
  · intro wq hSw; (try dsimp only at hSw); first | (go_simp; done) | (go_simp; with_reducible rfl) | with_reducible rfl
  try simp only [Act.put, List.setIfInBounds_toArray, List.set_cons_zero, List.set_cons_succ]
  refine wpAnyL_take (i := 2) (v := ?_) rfl (by kernel_rfl) (by kernel_rfl) (by kernel_rfl) (by kernel_rfl) (by kernel_rfl) (fun _ _ _ h => h) (Or.inl ⟨by rfl, ?_⟩) (by assumption) ?_
  rotate_left
  · intro wq hSw; (try dsimp only at hSw); first | (go_simp; done) | (go_simp; with_reducible rfl) | with_reducible rfl
  try simp only [Act.put, List.setIfInBounds_toArray, List.set_cons_zero, List.set_cons_succ]
  refine wpAnyL_take (i := 3) (v := ?_) rfl (by kernel_rfl) (by kernel_rfl) (by kernel_rfl) (by kernel_rfl) (by kernel_rfl) (fun _ _ _ h => h) (Or.inl ⟨by rfl, ?_⟩) (by assumption) ?_
  rotate_left
  · intro wq hSw; (try dsimp only at hSw); first | (go_simp; done) | (go_simp; with_reducible rfl) | with_reducible rfl
  try simp only [Act.put, List.setIfInBounds_toArray, List.set_cons_zero, List.set_cons_succ]
  refine wpAnyL_ready (rs := [4]) (by kernel_rfl) (by simp) ?_
  refine (AllReadyL.cons rfl (fun K hK => ?_) AllReadyL.nil)
  go_simp
  go_wp2_with fail
  refine (new_any _ _ _ _ _ (HP.out.byt HR.out) (by omega)).mono ?_
  rintro e w2 ⟨gr, A2, c2, rfl, hgr, hrd, hbt, hb3, hA2⟩
  have S0 := Lib.hid (HP.out.done (l := [b1, b2, b3, b4, b5, b6, b7]) (by simp) hgr hrd hbt hb3 hA2)
  clear hgr hrd hbt hb3 hA2 HP
  refine hK.out _ _ (S0.out.off.line 0) (fun hHeld => ?_)
  clear hK K
  refine wpAnyL_ready (rs := [5]) (by kernel_rfl) (by simp) ?_
  refine (AllReadyL.cons rfl (fun K hK => ?_) AllReadyL.nil)
  go_simp
  refine hK.out _ _ hHeld (fun hHeld => ?_)
  clear hK K
  refine wpAnyL_ready (rs := [6]) (by kernel_rfl) (by simp) ?_
  refine AllReadyL.last rfl (fun K hK => ?_)
  go_simp
  refine hK.out _ _ ?_
  clear hK K
  refine wpAnyL_done (by kernel_rfl) ?_ _
  clear hHeld
  have HT := Lib.hid (bT hr0 hr1)
  obtain ⟨hb1, hb2, hb3, hb4, hb5, hb6, hb7⟩ : (0 ≤ b1 ∧ b1 ≤ 255) ∧ (0 ≤ b2 ∧ b2 ≤ 255) ∧ (0 ≤ b3 ∧ b3 ≤ 255) ∧ (0 ≤ b4 ∧ b4 ≤ 255) ∧ (0 ≤ b5 ∧ b5 ≤ 255) ∧ (0 ≤ b6 ∧ b6 ≤ 255) ∧ (0 ≤ b7 ∧ b7 ≤ 255) := by simpa using HR.out
  go_wp2_with (fail)
  refine (getkey_any S0.out.hq S0.out.hg.2).mono ?_
  rw [(gk_line hb1 hb2 hb3).1, (gk_line hb1 hb2 hb3).2.1, (gk_line hb1 hb2 hb3).2.2.1, (gk_line hb1 hb2 hb3).2.2.2]
  rintro e w10 ⟨rfl, hq1, hg1⟩
  have R1 := Lib.hid (S0.out.step hq1 hg1)
  clear hq1 hg1
  go_wp2_with (fail)
  refine (R1.out.hq.num 4).mono ?_
  rintro e w11 ⟨rfl, hq2, hg2⟩
  have R2 := Lib.hid (R1.out.step hq2 hg2)
  clear hq2 hg2
  have k3_co := R2.out.off.cell 16
  have f3_co := R2.out.off.frozen 16
  simp [lnA] at k3_co
  have R4 := Lib.hid (((((R2.out).set 1 (.int .i64 (b1 + 256 * b2))).set 2 (.int .i64 (b3))).set 16 (.int .i64 (rnN 0 4 [b4, b5, b6, b7]))).cong (m' := #[.int .i64 14, .int .i64 (b1 + 256 * b2), .int .i64 (b3), .bool false, .bool false, .bool false, .bool false, .int .i64 0, .int .i64 0, .int .u8 0, .int .u8 0, .int .u8 0, .int .u8 0, .int .u8 0, .int .u8 0, .int .u8 0, .int .i64 (b4 + 256 * b5 + 65536 * b6 + 16777216 * b7), .int .i64 0, .int .i64 0, .int .i64 0, .int .i64 0]) (by rw [rn_u32 hb4 hb5 hb6 hb7]; rfl))
  go_wp2_with (first
    | (refine wpList_store_two rfl (x := .tmp 141) (y := .tmp 138) rfl rfl rfl R2.out.hm info_key (by decide) rfl rfl ?_)
    | (refine wpList_load_row rfl 30 (.tmp 5) rfl (w.heap.size + 1 + 1) rfl _ #[.int .i64 14, .int .i64 (b1 + 256 * b2), .int .i64 (b3), .bool false, .bool false, .bool false, .bool false, .int .i64 0, .int .i64 0, .int .u8 0, .int .u8 0, .int .u8 0, .int .u8 0, .int .u8 0, .int .u8 0, .int .u8 0, .int .i64 (b4 + 256 * b5 + 65536 * b6 + 16777216 * b7), .int .i64 0, .int .i64 0, .int .i64 0, .int .i64 0] _ _ R4.out.hm Try.underlying30 rfl info_msg ?_)
    | (refine wpList_store_row rfl 30 (.tmp 4) (.tmp 146) rfl (w.heap.size + 1) #[.int .i64 14, .int .i64 (b1 + 256 * b2), .int .i64 (b3), .bool false, .bool false, .bool false, .bool false, .int .i64 0, .int .i64 0, .int .u8 0, .int .u8 0, .int .u8 0, .int .u8 0, .int .u8 0, .int .u8 0, .int .u8 0, .int .i64 (b4 + 256 * b5 + 65536 * b6 + 16777216 * b7), .int .i64 0, .int .i64 0, .int .i64 0, .int .i64 0] rfl rfl _ _ R4.out.hr info_msg rfl (one_msg (14) ((b1 + 256 * b2)) ((b3)) (false) (false) (false) (false) (0) (0) (0) (0) (0) (0) (0) (0) (0) ((b4 + 256 * b5 + 65536 * b6 + 16777216 * b7)) (0) (0) (0) (0)) ?_))
  exact bodyPost_ret (results_cell_row rfl _ _ (w.heap.size + 1) _ _ _ _ rfl (setRow_heap _ _ _ #[.int .i64 14, .int .i64 (b1 + 256 * b2), .int .i64 (b3), .bool false, .bool false, .bool false, .bool false, .int .i64 0, .int .i64 0, .int .u8 0, .int .u8 0, .int .u8 0, .int .u8 0, .int .u8 0, .int .u8 0, .int .u8 0, .int .i64 (b4 + 256 * b5 + 65536 * b6 + 16777216 * b7), .int .i64 0, .int .i64 0, .int .i64 0, .int .i64 0] _ _ R4.out.hr) Try.underlying30 rfl info_msg) rfl ⟨rfl, below_setRow R4.out.hb (by omega) _⟩
end Go.Proofs.Ytoamgdcjmkkmfaa
