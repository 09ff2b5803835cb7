/- The walk of NmtOrders: one of four ways. -/
import Derived.Test.YtnijdcbpllmieaaNm
namespace Go.Proofs.Ytnijdcbpllmieaa
open Go.RowKit
set_option linter.unusedSimpArgs false
set_option linter.unusedVariables false

set_option maxRecDepth 100000 in
set_option maxHeartbeats 4000000 in
theorem orders_nn (v n id k : Int) (r : Bool) (d : Nat → Int) (w : World) (hd : ∀ j, j < 8 → 0 ≤ d j ∧ d j ≤ 255) (hm : mayO v n = false) (hq : decO id r k d = false) :
    Calls Try.prog 3 #[.agg #[.int .i64 v, .int .i64 n], .agg #[.int .i64 id, .bool r, .int .i64 k, .int .u8 (d 0), .int .u8 (d 1), .int .u8 (d 2), .int .u8 (d 3), .int .u8 (d 4), .int .u8 (d 5), .int .u8 (d 6), .int .u8 (d 7)]] w fun e w' => e = .returned (.bool true) ∧ Below w.heap.size w w' := by
  have HE := Lib.hid (fun w => encode_no v n w hm)
  have hrm := fun w => rmay_any v n w
  rw [hm] at hrm
  have HRM := Lib.hid hrm
  have hdy := fun w => dec_any id k r d w hd
  have hry := fun w => rdec_any id k r d w hd
  unfold decV decN decE at hdy hry
  rw [hq] at hdy hry
  simp only [if_true, if_false, Bool.false_eq_true] at hdy hry
  have HDY := Lib.hid hdy
  have HRY := Lib.hid hry
  have hqx : ∀ w, (Op.equalIn 10000 27 (.agg #[.int .i64 0, .bool false, .int .i64 0, .int .u8 0, .int .u8 0, .int .u8 0, .int .u8 0, .int .u8 0, .int .u8 0, .int .u8 0, .int .u8 0]) (.agg #[.int .i64 0, .bool false, .int .i64 0, .int .u8 0, .int .u8 0, .int .u8 0, .int .u8 0, .int .u8 0, .int .u8 0, .int .u8 0, .int .u8 0])).run Try.prog w = .ok true w := fun w => (run_eq_frames w 0 0 0 0 false false (fun _ => 0) (fun _ => 0)).trans (by simp [eqD])
  have HQX := Lib.hid hqx
  clear hqx
  have HB2 := Lib.hid (fun w => encode_no 0 0 w (by decide))
  have ho : OrAt ((w.alloc (.cells #[.int .i64 v, .int .i64 n] 24)).alloc (.cells #[.int .i64 id, .bool r, .int .i64 k, .int .u8 (d 0), .int .u8 (d 1), .int .u8 (d 2), .int .u8 (d 3), .int .u8 (d 4), .int .u8 (d 5), .int .u8 (d 6), .int .u8 (d 7)] 27)) w.heap.size v n := heap_alloc2_old w _ _
  have hf : FrAt ((w.alloc (.cells #[.int .i64 v, .int .i64 n] 24)).alloc (.cells #[.int .i64 id, .bool r, .int .i64 k, .int .u8 (d 0), .int .u8 (d 1), .int .u8 (d 2), .int .u8 (d 3), .int .u8 (d 4), .int .u8 (d 5), .int .u8 (d 6), .int .u8 (d 7)] 27)) (w.heap.size + 1) id r k d := heap_alloc2_new w _ _
  have hb : Below w.heap.size w ((w.alloc (.cells #[.int .i64 v, .int .i64 n] 24)).alloc (.cells #[.int .i64 id, .bool r, .int .i64 k, .int .u8 (d 0), .int .u8 (d 1), .int .u8 (d 2), .int .u8 (d 3), .int .u8 (d 4), .int .u8 (d 5), .int .u8 (d 6), .int .u8 (d 7)] 27)) := ((Below.refl _ _).alloc (Nat.le_refl _) _).alloc (by simp) _
  have HS := Lib.hid (show OrS w ((w.alloc (.cells #[.int .i64 v, .int .i64 n] 24)).alloc (.cells #[.int .i64 id, .bool r, .int .i64 k, .int .u8 (d 0), .int .u8 (d 1), .int .u8 (d 2), .int .u8 (d 3), .int .u8 (d 4), .int .u8 (d 5), .int .u8 (d 6), .int .u8 (d 7)] 27)) v n id r k d from ⟨ho, hf, hb⟩)
  clear hrm hdy hry ho hf hb hd hm hq
  go_enter Try.func3, Try.ntmps3
  go_wp2_with fail
  generalize ((w.alloc (.cells #[.int .i64 v, .int .i64 n] 24)).alloc (.cells #[.int .i64 id, .bool r, .int .i64 k, .int .u8 (d 0), .int .u8 (d 1), .int .u8 (d 2), .int .u8 (d 3), .int .u8 (d 4), .int .u8 (d 5), .int .u8 (d 6), .int .u8 (d 7)] 27)) = w0 at HS ⊢
  obtain ⟨o0, o1⟩ := HS.out.o.cells
  go_upto_region 2 with (first
    | (go_at_call 7; refine (HE.out _).mono ?_; rintro e w1 ⟨rfl, hb1⟩; have HS1 := Lib.hid (HS.out.below hb1); have hx3 : FrAt (w1.alloc (.cells #[.int .i64 0, .bool false, .int .i64 0, .int .u8 0, .int .u8 0, .int .u8 0, .int .u8 0, .int .u8 0, .int .u8 0, .int .u8 0, .int .u8 0] 27)) w1.heap.size 0 false 0 (fun _ => 0) := frame_new w1 0 0 false (fun _ => 0); have hba : Below w1.heap.size w1 (w1.alloc (.cells #[.int .i64 0, .bool false, .int .i64 0, .int .u8 0, .int .u8 0, .int .u8 0, .int .u8 0, .int .u8 0, .int .u8 0, .int .u8 0, .int .u8 0] 27)) := (Below.refl _ _).alloc (Nat.le_refl _) _; have HX3 := Lib.hid hx3; have HX4 := Lib.hid (show FrAt ((w1.alloc (.cells #[.int .i64 0, .bool false, .int .i64 0, .int .u8 0, .int .u8 0, .int .u8 0, .int .u8 0, .int .u8 0, .int .u8 0, .int .u8 0, .int .u8 0] 27)).setRow w1.heap.size #[.int .i64 0, .bool false, .int .i64 0, .int .u8 0, .int .u8 0, .int .u8 0, .int .u8 0, .int .u8 0, .int .u8 0, .int .u8 0, .int .u8 0]) w1.heap.size 0 false 0 (fun _ => 0) from hx3.row 0 0 false (fun _ => 0)); have HS4 := Lib.hid ((HS1.out.below hba).setRow HS1.out.f.lt #[.int .i64 0, .bool false, .int .i64 0, .int .u8 0, .int .u8 0, .int .u8 0, .int .u8 0, .int .u8 0, .int .u8 0, .int .u8 0, .int .u8 0]); have HGX := Lib.hid (show w.heap.size + 1 < w1.heap.size from HS1.out.f.lt); clear hx3 hb1 hba o0 o1)
    | (refine wpList_store_row rfl _ (.tmp 5) (.tmp 18) rfl w1.heap.size _ rfl rfl _ _ HX3.out info_frame rfl (one_frame 0 0 false (fun _ => 0)) ?_))
  clear HX3 HS1 HE
  generalize (w1.alloc (.cells #[.int .i64 0, .bool false, .int .i64 0, .int .u8 0, .int .u8 0, .int .u8 0, .int .u8 0, .int .u8 0, .int .u8 0, .int .u8 0, .int .u8 0] 27)).setRow w1.heap.size #[.int .i64 0, .bool false, .int .i64 0, .int .u8 0, .int .u8 0, .int .u8 0, .int .u8 0, .int .u8 0, .int .u8 0, .int .u8 0, .int .u8 0] = w2 at HX4 HS4 ⊢
  generalize w1.heap.size = gx at *
  obtain ⟨o0, o1⟩ := HS4.out.o.cells
  obtain ⟨x0, x1, x2, x3, x4, x5, x6, x7, x8, x9, x10⟩ : w2.cell? ⟨gx, 0, none⟩ = some (.int .i64 0) ∧ w2.cell? ⟨gx, 1, none⟩ = some (.bool false) ∧ w2.cell? ⟨gx, 2, none⟩ = some (.int .i64 0) ∧ w2.cell? ⟨gx, 3, none⟩ = some (.int .u8 0) ∧ w2.cell? ⟨gx, 4, none⟩ = some (.int .u8 0) ∧ w2.cell? ⟨gx, 5, none⟩ = some (.int .u8 0) ∧ w2.cell? ⟨gx, 6, none⟩ = some (.int .u8 0) ∧ w2.cell? ⟨gx, 7, none⟩ = some (.int .u8 0) ∧ w2.cell? ⟨gx, 8, none⟩ = some (.int .u8 0) ∧ w2.cell? ⟨gx, 9, none⟩ = some (.int .u8 0) ∧ w2.cell? ⟨gx, 10, none⟩ = some (.int .u8 0) := HX4.out.cells
  have hqx := HQX.out
  go_upto_region 8 with (go_at_call 8; refine (HRM.out _).mono ?_; rintro e w8 ⟨rfl, hb3⟩; have HS8 := Lib.hid (HS4.out.below hb3); have HX5 := Lib.hid (HX4.out.below hb3 HX4.out.lt); clear hb3 o0 o1 x0 x1 x2 x3 x4 x5 x6 x7 x8 x9 x10; obtain ⟨x0, x1, x2, x3, x4, x5, x6, x7, x8, x9, x10⟩ : w8.cell? ⟨gx, 0, none⟩ = some (.int .i64 0) ∧ w8.cell? ⟨gx, 1, none⟩ = some (.bool false) ∧ w8.cell? ⟨gx, 2, none⟩ = some (.int .i64 0) ∧ w8.cell? ⟨gx, 3, none⟩ = some (.int .u8 0) ∧ w8.cell? ⟨gx, 4, none⟩ = some (.int .u8 0) ∧ w8.cell? ⟨gx, 5, none⟩ = some (.int .u8 0) ∧ w8.cell? ⟨gx, 6, none⟩ = some (.int .u8 0) ∧ w8.cell? ⟨gx, 7, none⟩ = some (.int .u8 0) ∧ w8.cell? ⟨gx, 8, none⟩ = some (.int .u8 0) ∧ w8.cell? ⟨gx, 9, none⟩ = some (.int .u8 0) ∧ w8.cell? ⟨gx, 10, none⟩ = some (.int .u8 0) := HX5.out.cells)
  clear HRM HS4 HX4 HX5 HQX hqx x0 x1 x2 x3 x4 x5 x6 x7 x8 x9 x10
  obtain ⟨f0, f1, f2, f3, f4, f5, f6, f7, f8, f9, f10⟩ := HS8.out.f.cells
  go_upto_region 10 with (first
    | (go_at_call 9; refine (HDY.out _).mono ?_; rintro e w9 ⟨rfl, hb9⟩; have hba : Below w9.heap.size w9 (w9.alloc (.cells #[.int .i64 0, .int .i64 0] 24)) := (Below.refl _ _).alloc (Nat.le_refl _) _; have HS9 := Lib.hid ((HS8.out.below hb9).below hba); have HY9 := Lib.hid (or_new w9 0 0); clear hb9 hba f0 f1 f2 f3 f4 f5 f6 f7 f8 f9 f10; obtain ⟨f0, f1, f2, f3, f4, f5, f6, f7, f8, f9, f10⟩ := HS9.out.f.cells)
    | (go_at_call 11; refine (HRY.out _).mono ?_; rintro e w10 ⟨rfl, hb10⟩; have hba : Below w10.heap.size w10 (w10.alloc (.cells #[.int .i64 0, .int .i64 0] 24)) := (Below.refl _ _).alloc (Nat.le_refl _) _; have HS10 := Lib.hid ((HS9.out.below hb10).below hba); have hy10 := HY9.out.below hb10 HY9.out.lt; have HY10 := Lib.hid (hy10.below hba hy10.lt); have HZ10 := Lib.hid (or_new w10 0 0); clear hb10 hba hy10 f0 f1 f2 f3 f4 f5 f6 f7 f8 f9 f10))
  clear HDY HRY HS8 HS9 HY9
  generalize (w10.alloc (.cells #[.int .i64 0, .int .i64 0] 24)) = w11 at *
  generalize w10.heap.size = gz at *
  generalize w9.heap.size = gy9 at *
  obtain ⟨y0, y1⟩ := HY10.out.cells
  obtain ⟨z0, z1⟩ := HZ10.out.cells
  have hqo := run_eq_orders 0 0
  go_upto_region 13 with (first
    | (go_at_call 7; refine (HB2.out _).mono ?_; rintro e w12 ⟨rfl, hb12⟩; have HS12 := Lib.hid (HS10.out.below hb12); have hx3 : FrAt (w12.alloc (.cells #[.int .i64 0, .bool false, .int .i64 0, .int .u8 0, .int .u8 0, .int .u8 0, .int .u8 0, .int .u8 0, .int .u8 0, .int .u8 0, .int .u8 0] 27)) w12.heap.size 0 false 0 (fun _ => 0) := frame_new w12 0 0 false (fun _ => 0); have hba : Below w12.heap.size w12 (w12.alloc (.cells #[.int .i64 0, .bool false, .int .i64 0, .int .u8 0, .int .u8 0, .int .u8 0, .int .u8 0, .int .u8 0, .int .u8 0, .int .u8 0, .int .u8 0] 27)) := (Below.refl _ _).alloc (Nat.le_refl _) _; have HX3 := Lib.hid hx3; have HX4 := Lib.hid (show FrAt ((w12.alloc (.cells #[.int .i64 0, .bool false, .int .i64 0, .int .u8 0, .int .u8 0, .int .u8 0, .int .u8 0, .int .u8 0, .int .u8 0, .int .u8 0, .int .u8 0] 27)).setRow w12.heap.size #[.int .i64 0, .bool false, .int .i64 0, .int .u8 0, .int .u8 0, .int .u8 0, .int .u8 0, .int .u8 0, .int .u8 0, .int .u8 0, .int .u8 0]) w12.heap.size 0 false 0 (fun _ => 0) from hx3.row 0 0 false (fun _ => 0)); have HS13 := Lib.hid ((HS12.out.below hba).setRow HS12.out.f.lt #[.int .i64 0, .bool false, .int .i64 0, .int .u8 0, .int .u8 0, .int .u8 0, .int .u8 0, .int .u8 0, .int .u8 0, .int .u8 0, .int .u8 0]); clear hx3 hb12 hba y0 y1 z0 z1)
    | (refine wpList_store_row rfl _ (.tmp 13) (.tmp 72) rfl w12.heap.size _ rfl rfl _ _ HX3.out info_frame rfl (one_frame 0 0 false (fun _ => 0)) ?_))
  clear HX3 HS12 HB2 hqo HS10 HY10 HZ10
  generalize (w12.alloc (.cells #[.int .i64 0, .bool false, .int .i64 0, .int .u8 0, .int .u8 0, .int .u8 0, .int .u8 0, .int .u8 0, .int .u8 0, .int .u8 0, .int .u8 0] 27)).setRow w12.heap.size #[.int .i64 0, .bool false, .int .i64 0, .int .u8 0, .int .u8 0, .int .u8 0, .int .u8 0, .int .u8 0, .int .u8 0, .int .u8 0, .int .u8 0] = w13 at HX4 HS13 ⊢
  generalize w12.heap.size = gb at *
  go_wp2_with (go_at_call 12; refine (live21_any _).mono ?_; rintro e w14 ⟨rfl, hb14⟩; have HS14 := Lib.hid (HS13.out.below hb14); clear hb14)
  all_goals first | (go_ret; exact ⟨rfl, HS14.out.bel⟩) | (trace_state; sorry)
end Go.Proofs.Ytnijdcbpllmieaa
