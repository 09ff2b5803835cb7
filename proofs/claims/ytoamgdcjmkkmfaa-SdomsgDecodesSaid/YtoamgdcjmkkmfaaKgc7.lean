/- The document's guess Cmd by Cmd. -/
import Derived.Deep.CutBlock
import Derived.Test.YtoamgdcjmkkmfaaKgb
import Derived.Test.YtoamgdcjmkkmfaaKz
set_option linter.unusedSimpArgs false
set_option linter.unusedVariables false
namespace Go.Proofs.Ytoamgdcjmkkmfaa
open Go.RowKit
set_option maxHeartbeats 4000000
set_option maxRecDepth 8000 in
theorem gu_3 (c : Int) (hc : c = 3 ∨ c = 8) (b : List Int) (hb8 : Byte8 b) (n : Nat) (hn : n ≤ 7) (sd : Bool) (w : World) : Calls Try.prog 13 #[.agg (lnA b), .int .i64 c, .agg (rowX c), .int .i64 (n : Int), .bool sd] w fun e w' => e = .returned (.agg #[.int .i64 (c), .int .i64 (getR 2 b 1), .int .i64 (getR 1 b 3), .bool (false), .bool (false), .bool (false), .bool (false), .int .i64 (0), .int .i64 (0), .int .u8 (0), .int .u8 (0), .int .u8 (0), .int .u8 (0), .int .u8 (0), .int .u8 (0), .int .u8 (0), .int .i64 (0), .int .i64 (0), .int .i64 (0), .int .i64 (0), .int .i64 (0)]) ∧ Below w.heap.size w w' := by
  obtain ⟨RX, hRX⟩ : ∃ RX : Array Value, rowX c = RX := ⟨_, rfl⟩
  obtain ⟨qx, hqx⟩ : ∃ qx : Int, rowX c = #[.int .i64 qx, .bool true, .bool false, .bool false, .bool false, .bool false, .bool false, .bool false, .bool false, .bool false, .bool false] := by rcases hc with rfl | rfl <;> exact ⟨_, rfl⟩
  have HR : Hid (#[.int .i64 qx, .bool true, .bool false, .bool false, .bool false, .bool false, .bool false, .bool false, .bool false, .bool false, .bool false] = RX) := Lib.hid (hqx.symm.trans hRX)
  clear hqx
  have HG := Lib.hid (fun (w : World) (a q : Nat) (h : a + q ≤ 8) (hq : q ≤ 4) => rget17_any w b a q hb8 h hq)
  have h0 := (hb8 0).1
  have h1 := (hb8 0).2
  have hg2 := getR_rng hb8 2 1
  have hg1 := getR_rng hb8 1 3
  have HP0 := Lib.hid (gu_start (w := w) (LV := lnA b) (RX := RX) (b := b) rfl rfl)
  have HP1 := Lib.hid (HP0.out.told #[.int .i64 (c), .int .i64 (0), .int .i64 (0), .bool (false), .bool (false), .bool (false), .bool (false), .int .i64 (0), .int .i64 (0), .int .u8 (0), .int .u8 (0), .int .u8 (0), .int .u8 (0), .int .u8 (0), .int .u8 (0), .int .u8 (0), .int .i64 (0), .int .i64 (0), .int .i64 (0), .int .i64 (0), .int .i64 (0)])
  rw [hRX]
  clear hRX
  have hc15 : (c == 15) = false := by rcases hc with rfl | rfl <;> rfl
  clear hc
  obtain ⟨h, hh⟩ : ∃ h, b.getD 0 0 = h := ⟨_, rfl⟩
  rw [hh] at h0 h1
  have HH := Lib.hid hh
  clear hh
  go_enter Try.func13, Try.ntmps13
  generalize lnA b = LV at HP0 HP1 ⊢
  go_upto_region 2 with (refine wpList_store_row rfl 30 (.tmp 11) (.tmp 16) rfl (w.heap.size + 3) #[.int .i64 (c), .int .i64 (0), .int .i64 (0), .bool (false), .bool (false), .bool (false), .bool (false), .int .i64 (0), .int .i64 (0), .int .u8 (0), .int .u8 (0), .int .u8 (0), .int .u8 (0), .int .u8 (0), .int .u8 (0), .int .u8 (0), .int .i64 (0), .int .i64 (0), .int .i64 (0), .int .i64 (0), .int .i64 (0)] rfl rfl _ _ HP0.out.hm info_msg rfl (one_msg c 0 0 false false false false 0 0 0 0 0 0 0 0 0 0 0 0 0 0) ?_)
  clear HP0
  generalize _root_.Go.World.setRow _ (w.heap.size + 3) #[.int .i64 (c), .int .i64 (0), .int .i64 (0), .bool (false), .bool (false), .bool (false), .bool (false), .int .i64 (0), .int .i64 (0), .int .u8 (0), .int .u8 (0), .int .u8 (0), .int .u8 (0), .int .u8 (0), .int .u8 (0), .int .u8 (0), .int .i64 (0), .int .i64 (0), .int .i64 (0), .int .i64 (0), .int .i64 (0)] = x1 at *
  have HS := HP1
  clear HP1
  have c0 := HS.out.hl.cell 0 (by omega)
  rw [HH.out] at c0
  have e1 : Int.tdiv h 16 = h / 16 := Int.tdiv_eq_ediv_of_nonneg h0
  have e2 : Int.tmod (h / 16) 2 = h / 16 % 2 := Int.tmod_eq_emod_of_nonneg (by omega)
  have e3 : Int.tmod h 2 = h % 2 := Int.tmod_eq_emod_of_nonneg h0
  have e4 : Int.tdiv h 4 = h / 4 := Int.tdiv_eq_ediv_of_nonneg h0
  have e5 : Int.tmod (h / 4) 2 = h / 4 % 2 := Int.tmod_eq_emod_of_nonneg (by omega)
  have e6 : Int.tmod (h / 4) 8 = h / 4 % 8 := Int.tmod_eq_emod_of_nonneg (by omega)
  obtain ⟨r1, r2, r3, r4, r5, r6, r7, r8, r9, r10⟩ := gu_rows HR HS.out
  go_upto_region 4 with fail
  clear r1 r2 r3 r4 r5 r6 r7 r8 r9 r10
  clear c0
  refine wp_region_last (fun y => GU w b RX #[.int .i64 (c), .int .i64 (0), .int .i64 (0), .bool (false), .bool (false), .bool (false), .bool (false), .int .i64 (0), .int .i64 (0), .int .u8 (0), .int .u8 (0), .int .u8 (0), .int .u8 (0), .int .u8 (0), .int .u8 (0), .int .u8 (0), .int .i64 (0), .int .i64 (0), .int .i64 (0), .int .i64 (0), .int .i64 (0)] y) 6 (by kernel_rfl) (HS.out.below ((Below.refl _ _).drew)) (fun hHeld => ?_)
  have HSd := Lib.hid hHeld
  clear HS
  refine wpAnyL_take (i := 0) (v := .agg (lnA b)) rfl (by kernel_rfl) (by kernel_rfl) (by kernel_rfl) (by kernel_rfl) (by kernel_rfl) (fun _ _ _ h => h) (Or.inl ⟨by rfl, ?_⟩) (by assumption) ?_
  · intro wq hSw
    exact run_load_row (x := .tmp 5) rfl rfl hSw.hl rfl Try.underlying23 info_line
  try simp only [Act.put, List.getElem_toArray, List.getElem_cons_zero, List.getElem_cons_succ, List.setIfInBounds_toArray, List.set_cons_zero, List.set_cons_succ]
  refine wpAnyL_take (i := 2) (v := .agg (lnA b)) rfl (by kernel_rfl) (by kernel_rfl) (by kernel_rfl) (by kernel_rfl) (by kernel_rfl) (fun _ _ _ h => h) (Or.inl ⟨by rfl, ?_⟩) (by assumption) ?_
  · intro wq hSw
    exact run_load_row (x := .tmp 5) rfl rfl hSw.hl rfl Try.underlying23 info_line
  try simp only [Act.put, List.getElem_toArray, List.getElem_cons_zero, List.getElem_cons_succ, List.setIfInBounds_toArray, List.set_cons_zero, List.set_cons_succ]
  refine wpAnyL_ready (rs := [1]) (by kernel_rfl) (by simp) ?_
  refine (AllReadyL.cons rfl (fun K hK => ?_) AllReadyL.nil)
  go_simp
  go_wp2_with fail
  refine (HG.out _ 1 2 (by omega) (by omega)).mono ?_
  rintro e w1_ ⟨rfl, hy⟩
  have HSe := Lib.hid (HSd.out.below hy)
  clear hy HSd
  have HSd := HSe
  clear HSe
  refine hK.out _ _ HSd.out (fun hHeld => ?_)
  clear hK K
  refine wpAnyL_ready (rs := [3]) (by kernel_rfl) (by simp) ?_
  refine (AllReadyL.cons rfl (fun K hK => ?_) AllReadyL.nil)
  go_simp
  go_wp2_with fail
  refine (HG.out _ 3 1 (by omega) (by omega)).mono ?_
  rintro e w3_ ⟨rfl, hy⟩
  have HSe := Lib.hid (HSd.out.below hy)
  clear hy HSd
  have HSd := HSe
  clear HSe
  refine hK.out _ _ HSd.out (fun hHeld => ?_)
  clear hK K
  refine wpAnyL_take (i := 4) (v := ?_) rfl (by kernel_rfl) (by kernel_rfl) (by kernel_rfl) (by kernel_rfl) (by kernel_rfl) (fun _ _ _ h => h) (Or.inl ⟨by rfl, ?_⟩) (by assumption) ?_
  rotate_left
  · intro wq hSw; (try dsimp only at hSw); first | (go_simp; done) | (go_simp; with_reducible rfl) | with_reducible rfl
  try simp only [Act.put, List.getElem_toArray, List.getElem_cons_zero, List.getElem_cons_succ, List.setIfInBounds_toArray, List.set_cons_zero, List.set_cons_succ]
  refine wpAnyL_take (i := 5) (v := ?_) rfl (by kernel_rfl) (by kernel_rfl) (by kernel_rfl) (by kernel_rfl) (by kernel_rfl) (fun _ _ _ h => h) (Or.inl ⟨by rfl, ?_⟩) (by assumption) ?_
  rotate_left
  · intro wq hSw; (try dsimp only at hSw); first | (go_simp; done) | (go_simp; with_reducible rfl) | with_reducible rfl
  try simp only [Act.put, List.getElem_toArray, List.getElem_cons_zero, List.getElem_cons_succ, List.setIfInBounds_toArray, List.set_cons_zero, List.set_cons_succ]
  refine wpAnyL_ready (rs := [6]) (by kernel_rfl) (by simp) ?_
  refine AllReadyL.last rfl (fun K hK => ?_)
  refine Eq.mpr (if_pos (by kernel_rfl)) ?_
  refine wp_store_two (x := .tmp 27) (y := .tmp 26) rfl rfl rfl HSd.out.hm info_key (by simp) rfl rfl ?_
  refine hK.out _ _ ?_
  clear hK K hHeld
  refine wpAnyL_done (by kernel_rfl) ?_ _
  have HS := Lib.hid (((HSd.out.set 1 (.int .i64 (getR 2 b 1))).set 2 (.int .i64 (getR 1 b 3))).cong (m' := #[.int .i64 (c), .int .i64 (getR 2 b 1), .int .i64 (getR 1 b 3), .bool (false), .bool (false), .bool (false), .bool (false), .int .i64 (0), .int .i64 (0), .int .u8 (0), .int .u8 (0), .int .u8 (0), .int .u8 (0), .int .u8 (0), .int .u8 (0), .int .u8 (0), .int .i64 (0), .int .i64 (0), .int .i64 (0), .int .i64 (0), .int .i64 (0)]) rfl)
  clear HSd
  generalize _root_.Go.World.setCell _ ⟨w.heap.size + 3, 1 + 1, none⟩ (.int .i64 (getR 1 b 3)) = x2 at *
  obtain ⟨r1, r2, r3, r4, r5, r6, r7, r8, r9, r10⟩ := gu_rows HR HS.out
  have mtg := HS.out.msg 3
  have ftg := HS.out.frz 3
  have mla := HS.out.msg 4
  have fla := HS.out.frz 4
  have msu := HS.out.msg 6
  have fsu := HS.out.frz 6
  have mfa := HS.out.msg 5
  have ffa := HS.out.frz 5
  simp at mtg mla msu mfa
  go_upto_region 9 with fail
  have HS1 := Lib.hid (((((HS.out.set 3 (.bool false)).set 4 (.bool false)).set 6 (.bool false)).set 5 (.bool false)).cong (m' := #[.int .i64 (c), .int .i64 (getR 2 b 1), .int .i64 (getR 1 b 3), .bool (false), .bool (false), .bool (false), .bool (false), .int .i64 (0), .int .i64 (0), .int .u8 (0), .int .u8 (0), .int .u8 (0), .int .u8 (0), .int .u8 (0), .int .u8 (0), .int .u8 (0), .int .i64 (0), .int .i64 (0), .int .i64 (0), .int .i64 (0), .int .i64 (0)]) rfl)
  clear HS mtg mla msu mfa ftg fla fsu ffa r1 r2 r3 r4 r5 r6 r7 r8 r9 r10
  have HS := HS1
  clear HS1
  generalize _root_.Go.World.setCell _ ⟨w.heap.size + 3, 5, none⟩ (.bool false) = x3 at *
  obtain ⟨r1, r2, r3, r4, r5, r6, r7, r8, r9, r10⟩ := gu_rows HR HS.out
  have mfa := HS.out.msg 5
  have ffa := HS.out.frz 5
  have mn := HS.out.msg 8
  have fn := HS.out.frz 8
  simp at mfa mn
  go_wp2_with fail
  clear mfa ffa mn fn r1 r2 r3 r4 r5 r6 r7 r8 r9 r10
  go_loopw [14] (fun t wr => t = .int .i64 0 ∧ Hid (GU w b RX #[.int .i64 (c), .int .i64 (getR 2 b 1), .int .i64 (getR 1 b 3), .bool (false), .bool (false), .bool (false), .bool (false), .int .i64 (0), .int .i64 (0), .int .u8 (0), .int .u8 (0), .int .u8 (0), .int .u8 (0), .int .u8 (0), .int .u8 (0), .int .u8 (0), .int .i64 (0), .int .i64 (0), .int .i64 (0), .int .i64 (0), .int .i64 (0)] wr)) (fun _ _ => 0)
  case atStart => exact ⟨rfl, HS⟩
  case round =>
  clear HS
  obtain ⟨rfl, HS⟩ := hrel
  obtain ⟨r1, r2, r3, r4, r5, r6, r7, r8, r9, r10⟩ := gu_rows HR HS.out
  have mfa := (HS.out.msg 5).trans (show _ = some (.bool (false)) from rfl)
  have ffa := HS.out.frz 5
  have mn := (HS.out.msg 8).trans (show _ = some (.int .i64 (0)) from rfl)
  have fn := HS.out.frz 8
  go_wp2_with (first
    | (refine wpList_load_row rfl 30 (.tmp 11) rfl (w.heap.size + 3) rfl _ _ _ _ HS.out.hm Try.underlying30 rfl info_msg ?_)
    | (refine wpList_store_row rfl 30 (.tmp 10) (.tmp 124) rfl (w.heap.size + 2) #[.int .i64 (c), .int .i64 (getR 2 b 1), .int .i64 (getR 1 b 3), .bool (false), .bool (false), .bool (false), .bool (false), .int .i64 (0), .int .i64 (0), .int .u8 (0), .int .u8 (0), .int .u8 (0), .int .u8 (0), .int .u8 (0), .int .u8 (0), .int .u8 (0), .int .i64 (0), .int .i64 (0), .int .i64 (0), .int .i64 (0), .int .i64 (0)] rfl rfl _ _ HS.out.hz info_msg rfl (one_msg (c) (getR 2 b 1) (getR 1 b 3) (false) (false) (false) (false) (0) (0) (0) (0) (0) (0) (0) (0) (0) (0) (0) (0) (0) (0)) ?_))
  exact bodyPost_ret (results_cell_row rfl _ _ (w.heap.size + 2) _ _ _ _ rfl (setRow_heap _ _ _ #[.int .i64 (c), .int .i64 (getR 2 b 1), .int .i64 (getR 1 b 3), .bool (false), .bool (false), .bool (false), .bool (false), .int .i64 (0), .int .i64 (0), .int .u8 (0), .int .u8 (0), .int .u8 (0), .int .u8 (0), .int .u8 (0), .int .u8 (0), .int .u8 (0), .int .i64 (0), .int .i64 (0), .int .i64 (0), .int .i64 (0), .int .i64 (0)] _ _ HS.out.hz) Try.underlying30 rfl info_msg) rfl ⟨rfl, below_setRow HS.out.hb (by omega) _⟩
end Go.Proofs.Ytoamgdcjmkkmfaa
namespace Go.Proofs.Ytoamgdcjmkkmfaa
open Go.RowKit
set_option maxHeartbeats 4000000
set_option maxRecDepth 8000 in
theorem gu_4 (c : Int) (hc : c = 4 ∨ c = 9) (b : List Int) (hb8 : Byte8 b) (n : Nat) (hn : n ≤ 7) (sd : Bool) (w : World) : Calls Try.prog 13 #[.agg (lnA b), .int .i64 c, .agg (rowX c), .int .i64 (n : Int), .bool sd] w fun e w' => e = .returned (.agg #[.int .i64 (c), .int .i64 (0), .int .i64 (0), .bool (decide (b.getD 0 0 / 16 % 2 = 1)), .bool (false), .bool (false), .bool (false), .int .i64 (0), .int .i64 (0), .int .u8 (0), .int .u8 (0), .int .u8 (0), .int .u8 (0), .int .u8 (0), .int .u8 (0), .int .u8 (0), .int .i64 (0), .int .i64 (0), .int .i64 (0), .int .i64 (0), .int .i64 (0)]) ∧ Below w.heap.size w w' := by
  obtain ⟨RX, hRX⟩ : ∃ RX : Array Value, rowX c = RX := ⟨_, rfl⟩
  obtain ⟨qx, hqx⟩ : ∃ qx : Int, rowX c = #[.int .i64 qx, .bool false, .bool true, .bool false, .bool false, .bool false, .bool false, .bool false, .bool false, .bool false, .bool false] := by rcases hc with rfl | rfl <;> exact ⟨_, rfl⟩
  have HR : Hid (#[.int .i64 qx, .bool false, .bool true, .bool false, .bool false, .bool false, .bool false, .bool false, .bool false, .bool false, .bool false] = RX) := Lib.hid (hqx.symm.trans hRX)
  clear hqx
  have HG := Lib.hid (fun (w : World) (a q : Nat) (h : a + q ≤ 8) (hq : q ≤ 4) => rget17_any w b a q hb8 h hq)
  have h0 := (hb8 0).1
  have h1 := (hb8 0).2
  have hg2 := getR_rng hb8 2 1
  have hg1 := getR_rng hb8 1 3
  have HP0 := Lib.hid (gu_start (w := w) (LV := lnA b) (RX := RX) (b := b) rfl rfl)
  have HP1 := Lib.hid (HP0.out.told #[.int .i64 (c), .int .i64 (0), .int .i64 (0), .bool (false), .bool (false), .bool (false), .bool (false), .int .i64 (0), .int .i64 (0), .int .u8 (0), .int .u8 (0), .int .u8 (0), .int .u8 (0), .int .u8 (0), .int .u8 (0), .int .u8 (0), .int .i64 (0), .int .i64 (0), .int .i64 (0), .int .i64 (0), .int .i64 (0)])
  rw [hRX]
  clear hRX
  have hc15 : (c == 15) = false := by rcases hc with rfl | rfl <;> rfl
  clear hc
  obtain ⟨h, hh⟩ : ∃ h, b.getD 0 0 = h := ⟨_, rfl⟩
  rw [hh] at h0 h1 ⊢
  have HH := Lib.hid hh
  clear hh
  go_enter Try.func13, Try.ntmps13
  generalize lnA b = LV at HP0 HP1 ⊢
  go_upto_region 2 with (refine wpList_store_row rfl 30 (.tmp 11) (.tmp 16) rfl (w.heap.size + 3) #[.int .i64 (c), .int .i64 (0), .int .i64 (0), .bool (false), .bool (false), .bool (false), .bool (false), .int .i64 (0), .int .i64 (0), .int .u8 (0), .int .u8 (0), .int .u8 (0), .int .u8 (0), .int .u8 (0), .int .u8 (0), .int .u8 (0), .int .i64 (0), .int .i64 (0), .int .i64 (0), .int .i64 (0), .int .i64 (0)] rfl rfl _ _ HP0.out.hm info_msg rfl (one_msg c 0 0 false false false false 0 0 0 0 0 0 0 0 0 0 0 0 0 0) ?_)
  clear HP0
  generalize _root_.Go.World.setRow _ (w.heap.size + 3) #[.int .i64 (c), .int .i64 (0), .int .i64 (0), .bool (false), .bool (false), .bool (false), .bool (false), .int .i64 (0), .int .i64 (0), .int .u8 (0), .int .u8 (0), .int .u8 (0), .int .u8 (0), .int .u8 (0), .int .u8 (0), .int .u8 (0), .int .i64 (0), .int .i64 (0), .int .i64 (0), .int .i64 (0), .int .i64 (0)] = x1 at *
  have HS := HP1
  clear HP1
  have c0 := HS.out.hl.cell 0 (by omega)
  rw [HH.out] at c0
  have e1 : Int.tdiv h 16 = h / 16 := Int.tdiv_eq_ediv_of_nonneg h0
  have e2 : Int.tmod (h / 16) 2 = h / 16 % 2 := Int.tmod_eq_emod_of_nonneg (by omega)
  have e3 : Int.tmod h 2 = h % 2 := Int.tmod_eq_emod_of_nonneg h0
  have e4 : Int.tdiv h 4 = h / 4 := Int.tdiv_eq_ediv_of_nonneg h0
  have e5 : Int.tmod (h / 4) 2 = h / 4 % 2 := Int.tmod_eq_emod_of_nonneg (by omega)
  have e6 : Int.tmod (h / 4) 8 = h / 4 % 8 := Int.tmod_eq_emod_of_nonneg (by omega)
  obtain ⟨r1, r2, r3, r4, r5, r6, r7, r8, r9, r10⟩ := gu_rows HR HS.out
  have mtg := HS.out.msg 3
  have ftg := HS.out.frz 3
  have mla := HS.out.msg 4
  have fla := HS.out.frz 4
  have msu := HS.out.msg 6
  have fsu := HS.out.frz 6
  have mfa := HS.out.msg 5
  have ffa := HS.out.frz 5
  simp at mtg mla msu mfa
  go_upto_region 9 with fail
  have HS1 := Lib.hid (((((HS.out.set 3 (.bool (h / 16 % 2 == 1))).set 4 (.bool false)).set 6 (.bool false)).set 5 (.bool false)).cong (m' := #[.int .i64 (c), .int .i64 (0), .int .i64 (0), .bool (decide (h / 16 % 2 = 1)), .bool (false), .bool (false), .bool (false), .int .i64 (0), .int .i64 (0), .int .u8 (0), .int .u8 (0), .int .u8 (0), .int .u8 (0), .int .u8 (0), .int .u8 (0), .int .u8 (0), .int .i64 (0), .int .i64 (0), .int .i64 (0), .int .i64 (0), .int .i64 (0)]) rfl)
  clear HS mtg mla msu mfa ftg fla fsu ffa r1 r2 r3 r4 r5 r6 r7 r8 r9 r10
  have HS := HS1
  clear HS1
  generalize _root_.Go.World.setCell _ ⟨w.heap.size + 3, 5, none⟩ (.bool false) = x3 at *
  obtain ⟨r1, r2, r3, r4, r5, r6, r7, r8, r9, r10⟩ := gu_rows HR HS.out
  have mfa := HS.out.msg 5
  have ffa := HS.out.frz 5
  have mn := HS.out.msg 8
  have fn := HS.out.frz 8
  simp at mfa mn
  go_wp2_with fail
  clear mfa ffa mn fn r1 r2 r3 r4 r5 r6 r7 r8 r9 r10
  go_loopw [14] (fun t wr => t = .int .i64 0 ∧ Hid (GU w b RX #[.int .i64 (c), .int .i64 (0), .int .i64 (0), .bool (decide (h / 16 % 2 = 1)), .bool (false), .bool (false), .bool (false), .int .i64 (0), .int .i64 (0), .int .u8 (0), .int .u8 (0), .int .u8 (0), .int .u8 (0), .int .u8 (0), .int .u8 (0), .int .u8 (0), .int .i64 (0), .int .i64 (0), .int .i64 (0), .int .i64 (0), .int .i64 (0)] wr)) (fun _ _ => 0)
  case atStart => exact ⟨rfl, HS⟩
  case round =>
  clear HS
  obtain ⟨rfl, HS⟩ := hrel
  obtain ⟨r1, r2, r3, r4, r5, r6, r7, r8, r9, r10⟩ := gu_rows HR HS.out
  have mfa := (HS.out.msg 5).trans (show _ = some (.bool (false)) from rfl)
  have ffa := HS.out.frz 5
  have mn := (HS.out.msg 8).trans (show _ = some (.int .i64 (0)) from rfl)
  have fn := HS.out.frz 8
  go_wp2_with (first
    | (refine wpList_load_row rfl 30 (.tmp 11) rfl (w.heap.size + 3) rfl _ _ _ _ HS.out.hm Try.underlying30 rfl info_msg ?_)
    | (refine wpList_store_row rfl 30 (.tmp 10) (.tmp 124) rfl (w.heap.size + 2) #[.int .i64 (c), .int .i64 (0), .int .i64 (0), .bool (decide (h / 16 % 2 = 1)), .bool (false), .bool (false), .bool (false), .int .i64 (0), .int .i64 (0), .int .u8 (0), .int .u8 (0), .int .u8 (0), .int .u8 (0), .int .u8 (0), .int .u8 (0), .int .u8 (0), .int .i64 (0), .int .i64 (0), .int .i64 (0), .int .i64 (0), .int .i64 (0)] rfl rfl _ _ HS.out.hz info_msg rfl (one_msg (c) (0) (0) (decide (h / 16 % 2 = 1)) (false) (false) (false) (0) (0) (0) (0) (0) (0) (0) (0) (0) (0) (0) (0) (0) (0)) ?_))
  exact bodyPost_ret (results_cell_row rfl _ _ (w.heap.size + 2) _ _ _ _ rfl (setRow_heap _ _ _ #[.int .i64 (c), .int .i64 (0), .int .i64 (0), .bool (decide (h / 16 % 2 = 1)), .bool (false), .bool (false), .bool (false), .int .i64 (0), .int .i64 (0), .int .u8 (0), .int .u8 (0), .int .u8 (0), .int .u8 (0), .int .u8 (0), .int .u8 (0), .int .u8 (0), .int .i64 (0), .int .i64 (0), .int .i64 (0), .int .i64 (0), .int .i64 (0)] _ _ HS.out.hz) Try.underlying30 rfl info_msg) rfl ⟨rfl, below_setRow HS.out.hb (by omega) _⟩
end Go.Proofs.Ytoamgdcjmkkmfaa
namespace Go.Proofs.Ytoamgdcjmkkmfaa
open Go.RowKit
set_option maxHeartbeats 4000000
set_option maxRecDepth 8000 in
theorem gu_7 (c : Int) (hc : c = 7 ∨ c = 17) (b : List Int) (hb8 : Byte8 b) (n : Nat) (hn : n ≤ 7) (sd : Bool) (w : World) : Calls Try.prog 13 #[.agg (lnA b), .int .i64 c, .agg (rowX c), .int .i64 (n : Int), .bool sd] w fun e w' => e = .returned (.agg #[.int .i64 (c), .int .i64 (0), .int .i64 (0), .bool (false), .bool (false), .bool (false), .bool (false), .int .i64 (0), .int .i64 (0), .int .u8 (0), .int .u8 (0), .int .u8 (0), .int .u8 (0), .int .u8 (0), .int .u8 (0), .int .u8 (0), .int .i64 (0), .int .i64 (0), .int .i64 (0), .int .i64 (0), .int .i64 (0)]) ∧ Below w.heap.size w w' := by
  obtain ⟨RX, hRX⟩ : ∃ RX : Array Value, rowX c = RX := ⟨_, rfl⟩
  obtain ⟨qx, hqx⟩ : ∃ qx : Int, rowX c = #[.int .i64 qx, .bool false, .bool false, .bool false, .bool false, .bool false, .bool false, .bool false, .bool false, .bool false, .bool false] := by rcases hc with rfl | rfl <;> exact ⟨_, rfl⟩
  have HR : Hid (#[.int .i64 qx, .bool false, .bool false, .bool false, .bool false, .bool false, .bool false, .bool false, .bool false, .bool false, .bool false] = RX) := Lib.hid (hqx.symm.trans hRX)
  clear hqx
  have HG := Lib.hid (fun (w : World) (a q : Nat) (h : a + q ≤ 8) (hq : q ≤ 4) => rget17_any w b a q hb8 h hq)
  have h0 := (hb8 0).1
  have h1 := (hb8 0).2
  have hg2 := getR_rng hb8 2 1
  have hg1 := getR_rng hb8 1 3
  have HP0 := Lib.hid (gu_start (w := w) (LV := lnA b) (RX := RX) (b := b) rfl rfl)
  have HP1 := Lib.hid (HP0.out.told #[.int .i64 (c), .int .i64 (0), .int .i64 (0), .bool (false), .bool (false), .bool (false), .bool (false), .int .i64 (0), .int .i64 (0), .int .u8 (0), .int .u8 (0), .int .u8 (0), .int .u8 (0), .int .u8 (0), .int .u8 (0), .int .u8 (0), .int .i64 (0), .int .i64 (0), .int .i64 (0), .int .i64 (0), .int .i64 (0)])
  rw [hRX]
  clear hRX
  have hc15 : (c == 15) = false := by rcases hc with rfl | rfl <;> rfl
  clear hc
  obtain ⟨h, hh⟩ : ∃ h, b.getD 0 0 = h := ⟨_, rfl⟩
  rw [hh] at h0 h1
  have HH := Lib.hid hh
  clear hh
  go_enter Try.func13, Try.ntmps13
  generalize lnA b = LV at HP0 HP1 ⊢
  go_upto_region 2 with (refine wpList_store_row rfl 30 (.tmp 11) (.tmp 16) rfl (w.heap.size + 3) #[.int .i64 (c), .int .i64 (0), .int .i64 (0), .bool (false), .bool (false), .bool (false), .bool (false), .int .i64 (0), .int .i64 (0), .int .u8 (0), .int .u8 (0), .int .u8 (0), .int .u8 (0), .int .u8 (0), .int .u8 (0), .int .u8 (0), .int .i64 (0), .int .i64 (0), .int .i64 (0), .int .i64 (0), .int .i64 (0)] rfl rfl _ _ HP0.out.hm info_msg rfl (one_msg c 0 0 false false false false 0 0 0 0 0 0 0 0 0 0 0 0 0 0) ?_)
  clear HP0
  generalize _root_.Go.World.setRow _ (w.heap.size + 3) #[.int .i64 (c), .int .i64 (0), .int .i64 (0), .bool (false), .bool (false), .bool (false), .bool (false), .int .i64 (0), .int .i64 (0), .int .u8 (0), .int .u8 (0), .int .u8 (0), .int .u8 (0), .int .u8 (0), .int .u8 (0), .int .u8 (0), .int .i64 (0), .int .i64 (0), .int .i64 (0), .int .i64 (0), .int .i64 (0)] = x1 at *
  have HS := HP1
  clear HP1
  have c0 := HS.out.hl.cell 0 (by omega)
  rw [HH.out] at c0
  have e1 : Int.tdiv h 16 = h / 16 := Int.tdiv_eq_ediv_of_nonneg h0
  have e2 : Int.tmod (h / 16) 2 = h / 16 % 2 := Int.tmod_eq_emod_of_nonneg (by omega)
  have e3 : Int.tmod h 2 = h % 2 := Int.tmod_eq_emod_of_nonneg h0
  have e4 : Int.tdiv h 4 = h / 4 := Int.tdiv_eq_ediv_of_nonneg h0
  have e5 : Int.tmod (h / 4) 2 = h / 4 % 2 := Int.tmod_eq_emod_of_nonneg (by omega)
  have e6 : Int.tmod (h / 4) 8 = h / 4 % 8 := Int.tmod_eq_emod_of_nonneg (by omega)
  obtain ⟨r1, r2, r3, r4, r5, r6, r7, r8, r9, r10⟩ := gu_rows HR HS.out
  have mtg := HS.out.msg 3
  have ftg := HS.out.frz 3
  have mla := HS.out.msg 4
  have fla := HS.out.frz 4
  have msu := HS.out.msg 6
  have fsu := HS.out.frz 6
  have mfa := HS.out.msg 5
  have ffa := HS.out.frz 5
  simp at mtg mla msu mfa
  go_upto_region 9 with fail
  have HS1 := Lib.hid (((((HS.out.set 3 (.bool false)).set 4 (.bool false)).set 6 (.bool false)).set 5 (.bool false)).cong (m' := #[.int .i64 (c), .int .i64 (0), .int .i64 (0), .bool (false), .bool (false), .bool (false), .bool (false), .int .i64 (0), .int .i64 (0), .int .u8 (0), .int .u8 (0), .int .u8 (0), .int .u8 (0), .int .u8 (0), .int .u8 (0), .int .u8 (0), .int .i64 (0), .int .i64 (0), .int .i64 (0), .int .i64 (0), .int .i64 (0)]) rfl)
  clear HS mtg mla msu mfa ftg fla fsu ffa r1 r2 r3 r4 r5 r6 r7 r8 r9 r10
  have HS := HS1
  clear HS1
  generalize _root_.Go.World.setCell _ ⟨w.heap.size + 3, 5, none⟩ (.bool false) = x3 at *
  obtain ⟨r1, r2, r3, r4, r5, r6, r7, r8, r9, r10⟩ := gu_rows HR HS.out
  have mfa := HS.out.msg 5
  have ffa := HS.out.frz 5
  have mn := HS.out.msg 8
  have fn := HS.out.frz 8
  simp at mfa mn
  go_wp2_with fail
  clear mfa ffa mn fn r1 r2 r3 r4 r5 r6 r7 r8 r9 r10
  go_loopw [14] (fun t wr => t = .int .i64 0 ∧ Hid (GU w b RX #[.int .i64 (c), .int .i64 (0), .int .i64 (0), .bool (false), .bool (false), .bool (false), .bool (false), .int .i64 (0), .int .i64 (0), .int .u8 (0), .int .u8 (0), .int .u8 (0), .int .u8 (0), .int .u8 (0), .int .u8 (0), .int .u8 (0), .int .i64 (0), .int .i64 (0), .int .i64 (0), .int .i64 (0), .int .i64 (0)] wr)) (fun _ _ => 0)
  case atStart => exact ⟨rfl, HS⟩
  case round =>
  clear HS
  obtain ⟨rfl, HS⟩ := hrel
  obtain ⟨r1, r2, r3, r4, r5, r6, r7, r8, r9, r10⟩ := gu_rows HR HS.out
  have mfa := (HS.out.msg 5).trans (show _ = some (.bool (false)) from rfl)
  have ffa := HS.out.frz 5
  have mn := (HS.out.msg 8).trans (show _ = some (.int .i64 (0)) from rfl)
  have fn := HS.out.frz 8
  go_wp2_with (first
    | (refine wpList_load_row rfl 30 (.tmp 11) rfl (w.heap.size + 3) rfl _ _ _ _ HS.out.hm Try.underlying30 rfl info_msg ?_)
    | (refine wpList_store_row rfl 30 (.tmp 10) (.tmp 124) rfl (w.heap.size + 2) #[.int .i64 (c), .int .i64 (0), .int .i64 (0), .bool (false), .bool (false), .bool (false), .bool (false), .int .i64 (0), .int .i64 (0), .int .u8 (0), .int .u8 (0), .int .u8 (0), .int .u8 (0), .int .u8 (0), .int .u8 (0), .int .u8 (0), .int .i64 (0), .int .i64 (0), .int .i64 (0), .int .i64 (0), .int .i64 (0)] rfl rfl _ _ HS.out.hz info_msg rfl (one_msg (c) (0) (0) (false) (false) (false) (false) (0) (0) (0) (0) (0) (0) (0) (0) (0) (0) (0) (0) (0) (0)) ?_))
  exact bodyPost_ret (results_cell_row rfl _ _ (w.heap.size + 2) _ _ _ _ rfl (setRow_heap _ _ _ #[.int .i64 (c), .int .i64 (0), .int .i64 (0), .bool (false), .bool (false), .bool (false), .bool (false), .int .i64 (0), .int .i64 (0), .int .u8 (0), .int .u8 (0), .int .u8 (0), .int .u8 (0), .int .u8 (0), .int .u8 (0), .int .u8 (0), .int .i64 (0), .int .i64 (0), .int .i64 (0), .int .i64 (0), .int .i64 (0)] _ _ HS.out.hz) Try.underlying30 rfl info_msg) rfl ⟨rfl, below_setRow HS.out.hb (by omega) _⟩
end Go.Proofs.Ytoamgdcjmkkmfaa
