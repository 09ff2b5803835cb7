/- The walk of NmtOrders: one of four ways. -/
import Derived.Test.YtnijdcbpllmieaaNm
namespace Go.Proofs.Ytnijdcbpllmieaa
open Go.RowKit
set_option linter.unusedSimpArgs false
set_option linter.unusedVariables false

set_option maxRecDepth 100000 in
set_option maxHeartbeats 4000000 in
theorem orders_yy (v n id k : Int) (r : Bool) (d : Nat → Int) (w : World) (hd : ∀ j, j < 8 → 0 ≤ d j ∧ d j ≤ 255) (hm : mayO v n = true) (hq : decO id r k d = true) :
    Calls Try.prog 3 #[.agg #[.int .i64 v, .int .i64 n], .agg #[.int .i64 id, .bool r, .int .i64 k, .int .u8 (d 0), .int .u8 (d 1), .int .u8 (d 2), .int .u8 (d 3), .int .u8 (d 4), .int .u8 (d 5), .int .u8 (d 6), .int .u8 (d 7)]] w fun e w' => e = .returned (.bool true) ∧ Below w.heap.size w w' := by
  have HE := Lib.hid (fun w => encode_yes v n w hm)
  have hrm := fun w => rmay_any v n w
  rw [hm] at hrm
  have HRM := Lib.hid hrm
  have hdy := fun w => dec_any id k r d w hd
  have hry := fun w => rdec_any id k r d w hd
  unfold decV decN decE at hdy hry
  rw [hq] at hdy hry
  simp only [if_true, if_false, Bool.false_eq_true] at hdy hry
  have HDY := Lib.hid hdy
  have HRY := Lib.hid hry
  have HRE := Lib.hid (fun w => rencode_any v n w hm)
  have hdx := fun w => dec_any 0 2 false (dOf [v, n]) w (dOf_rng hm)
  have hox := decO_own hm
  unfold decV decN decE at hdx
  rw [hox] at hdx
  have HDX := Lib.hid (show ∀ w, Calls Try.prog 9 #[.agg #[.int .i64 0, .bool false, .int .i64 2, .int .u8 v, .int .u8 n, .int .u8 0, .int .u8 0, .int .u8 0, .int .u8 0, .int .u8 0, .int .u8 0]] w fun e w' => e = .returned (.tuple #[.agg #[.int .i64 v, .int .i64 n], .int .i64 0]) ∧ Below w.heap.size w w' from hdx)
  have hqx : ∀ w, (Op.equalIn 10000 27 (.agg #[.int .i64 0, .bool false, .int .i64 2, .int .u8 v, .int .u8 n, .int .u8 0, .int .u8 0, .int .u8 0, .int .u8 0, .int .u8 0, .int .u8 0]) (.agg #[.int .i64 0, .bool false, .int .i64 2, .int .u8 v, .int .u8 n, .int .u8 0, .int .u8 0, .int .u8 0, .int .u8 0, .int .u8 0, .int .u8 0])).run Try.prog w = .ok true w := fun w => (run_eq_frames w 0 0 2 2 false false (dOf [v, n]) (dOf [v, n])).trans (by simp [eqD])
  have HQX := Lib.hid hqx
  clear hdx hox hqx
  have HB2 := Lib.hid (fun w => encode_yes (d 0) (d 1) w ((decO_iff id k r d).1 hq).2.2.2.2)
  have hqb : ∀ w, (Op.equalIn 10000 27 (.agg #[.int .i64 0, .bool false, .int .i64 2, .int .u8 (d 0), .int .u8 (d 1), .int .u8 0, .int .u8 0, .int .u8 0, .int .u8 0, .int .u8 0, .int .u8 0]) (.agg #[.int .i64 id, .bool r, .int .i64 k, .int .u8 (d 0), .int .u8 (d 1), .int .u8 (d 2), .int .u8 (d 3), .int .u8 (d 4), .int .u8 (d 5), .int .u8 (d 6), .int .u8 (d 7)])).run Try.prog w = .ok true w := fun w => (run_eq_own w id k r d).trans (by
    unfold decO at hq
    rw [Bool.and_eq_true] at hq
    rw [hq.2])
  have HQB := Lib.hid hqb
  clear hqb
  have ho : OrAt ((w.alloc (.cells #[.int .i64 v, .int .i64 n] 24)).alloc (.cells #[.int .i64 id, .bool r, .int .i64 k, .int .u8 (d 0), .int .u8 (d 1), .int .u8 (d 2), .int .u8 (d 3), .int .u8 (d 4), .int .u8 (d 5), .int .u8 (d 6), .int .u8 (d 7)] 27)) w.heap.size v n := heap_alloc2_old w _ _
  have hf : FrAt ((w.alloc (.cells #[.int .i64 v, .int .i64 n] 24)).alloc (.cells #[.int .i64 id, .bool r, .int .i64 k, .int .u8 (d 0), .int .u8 (d 1), .int .u8 (d 2), .int .u8 (d 3), .int .u8 (d 4), .int .u8 (d 5), .int .u8 (d 6), .int .u8 (d 7)] 27)) (w.heap.size + 1) id r k d := heap_alloc2_new w _ _
  have hb : Below w.heap.size w ((w.alloc (.cells #[.int .i64 v, .int .i64 n] 24)).alloc (.cells #[.int .i64 id, .bool r, .int .i64 k, .int .u8 (d 0), .int .u8 (d 1), .int .u8 (d 2), .int .u8 (d 3), .int .u8 (d 4), .int .u8 (d 5), .int .u8 (d 6), .int .u8 (d 7)] 27)) := ((Below.refl _ _).alloc (Nat.le_refl _) _).alloc (by simp) _
  have HS := Lib.hid (show OrS w ((w.alloc (.cells #[.int .i64 v, .int .i64 n] 24)).alloc (.cells #[.int .i64 id, .bool r, .int .i64 k, .int .u8 (d 0), .int .u8 (d 1), .int .u8 (d 2), .int .u8 (d 3), .int .u8 (d 4), .int .u8 (d 5), .int .u8 (d 6), .int .u8 (d 7)] 27)) v n id r k d from ⟨ho, hf, hb⟩)
  clear hrm hdy hry ho hf hb hd hm hq
  go_enter Try.func3, Try.ntmps3
  go_wp2_with fail
  generalize ((w.alloc (.cells #[.int .i64 v, .int .i64 n] 24)).alloc (.cells #[.int .i64 id, .bool r, .int .i64 k, .int .u8 (d 0), .int .u8 (d 1), .int .u8 (d 2), .int .u8 (d 3), .int .u8 (d 4), .int .u8 (d 5), .int .u8 (d 6), .int .u8 (d 7)] 27)) = w0 at HS ⊢
  obtain ⟨o0, o1⟩ := HS.out.o.cells
  go_upto_region 2 with (first
    | (go_at_call 7; refine (HE.out _).mono ?_; rintro e w1 ⟨rfl, hb1⟩; have HS1 := Lib.hid (HS.out.below hb1); have hx3 : FrAt (w1.alloc (.cells #[.int .i64 0, .bool false, .int .i64 0, .int .u8 0, .int .u8 0, .int .u8 0, .int .u8 0, .int .u8 0, .int .u8 0, .int .u8 0, .int .u8 0] 27)) w1.heap.size 0 false 0 (fun _ => 0) := frame_new w1 0 0 false (fun _ => 0); have hba : Below w1.heap.size w1 (w1.alloc (.cells #[.int .i64 0, .bool false, .int .i64 0, .int .u8 0, .int .u8 0, .int .u8 0, .int .u8 0, .int .u8 0, .int .u8 0, .int .u8 0, .int .u8 0] 27)) := (Below.refl _ _).alloc (Nat.le_refl _) _; have HX3 := Lib.hid hx3; have HX4 := Lib.hid (show FrAt ((w1.alloc (.cells #[.int .i64 0, .bool false, .int .i64 0, .int .u8 0, .int .u8 0, .int .u8 0, .int .u8 0, .int .u8 0, .int .u8 0, .int .u8 0, .int .u8 0] 27)).setRow w1.heap.size #[.int .i64 0, .bool false, .int .i64 2, .int .u8 v, .int .u8 n, .int .u8 0, .int .u8 0, .int .u8 0, .int .u8 0, .int .u8 0, .int .u8 0]) w1.heap.size 0 false 2 (dOf [v, n]) from hx3.row 0 2 false (dOf [v, n])); have HS4 := Lib.hid ((HS1.out.below hba).setRow HS1.out.f.lt #[.int .i64 0, .bool false, .int .i64 2, .int .u8 v, .int .u8 n, .int .u8 0, .int .u8 0, .int .u8 0, .int .u8 0, .int .u8 0, .int .u8 0]); have HGX := Lib.hid (show w.heap.size + 1 < w1.heap.size from HS1.out.f.lt); clear hx3 hb1 hba o0 o1)
    | (refine wpList_store_row rfl _ (.tmp 5) (.tmp 18) rfl w1.heap.size _ rfl rfl _ _ HX3.out info_frame rfl (one_frame 0 2 false (dOf [v, n])) ?_))
  clear HX3 HS1 HE
  generalize (w1.alloc (.cells #[.int .i64 0, .bool false, .int .i64 0, .int .u8 0, .int .u8 0, .int .u8 0, .int .u8 0, .int .u8 0, .int .u8 0, .int .u8 0, .int .u8 0] 27)).setRow w1.heap.size #[.int .i64 0, .bool false, .int .i64 2, .int .u8 v, .int .u8 n, .int .u8 0, .int .u8 0, .int .u8 0, .int .u8 0, .int .u8 0, .int .u8 0] = w2 at HX4 HS4 ⊢
  generalize w1.heap.size = gx at *
  obtain ⟨o0, o1⟩ := HS4.out.o.cells
  obtain ⟨x0, x1, x2, x3, x4, x5, x6, x7, x8, x9, x10⟩ : w2.cell? ⟨gx, 0, none⟩ = some (.int .i64 0) ∧ w2.cell? ⟨gx, 1, none⟩ = some (.bool false) ∧ w2.cell? ⟨gx, 2, none⟩ = some (.int .i64 2) ∧ w2.cell? ⟨gx, 3, none⟩ = some (.int .u8 v) ∧ w2.cell? ⟨gx, 4, none⟩ = some (.int .u8 n) ∧ w2.cell? ⟨gx, 5, none⟩ = some (.int .u8 0) ∧ w2.cell? ⟨gx, 6, none⟩ = some (.int .u8 0) ∧ w2.cell? ⟨gx, 7, none⟩ = some (.int .u8 0) ∧ w2.cell? ⟨gx, 8, none⟩ = some (.int .u8 0) ∧ w2.cell? ⟨gx, 9, none⟩ = some (.int .u8 0) ∧ w2.cell? ⟨gx, 10, none⟩ = some (.int .u8 0) := HX4.out.cells
  go_upto_region 4 with (first
    | (go_at_call 8; refine (HRM.out _).mono ?_; rintro e w3 ⟨rfl, hb3⟩; have HS5 := Lib.hid (HS4.out.below hb3); have HX5 := Lib.hid (HX4.out.below hb3 HX4.out.lt); clear hb3 o0 o1 x0 x1 x2 x3 x4 x5 x6 x7 x8 x9 x10; obtain ⟨x0, x1, x2, x3, x4, x5, x6, x7, x8, x9, x10⟩ : w3.cell? ⟨gx, 0, none⟩ = some (.int .i64 0) ∧ w3.cell? ⟨gx, 1, none⟩ = some (.bool false) ∧ w3.cell? ⟨gx, 2, none⟩ = some (.int .i64 2) ∧ w3.cell? ⟨gx, 3, none⟩ = some (.int .u8 v) ∧ w3.cell? ⟨gx, 4, none⟩ = some (.int .u8 n) ∧ w3.cell? ⟨gx, 5, none⟩ = some (.int .u8 0) ∧ w3.cell? ⟨gx, 6, none⟩ = some (.int .u8 0) ∧ w3.cell? ⟨gx, 7, none⟩ = some (.int .u8 0) ∧ w3.cell? ⟨gx, 8, none⟩ = some (.int .u8 0) ∧ w3.cell? ⟨gx, 9, none⟩ = some (.int .u8 0) ∧ w3.cell? ⟨gx, 10, none⟩ = some (.int .u8 0) := HX5.out.cells)
    | (go_at_call 9; refine (HDX.out _).mono ?_; rintro e w4 ⟨rfl, hb4⟩; have hba : Below w4.heap.size w4 (w4.alloc (.cells #[.int .i64 v, .int .i64 n] 24)) := (Below.refl _ _).alloc (Nat.le_refl _) _; have HS6 := Lib.hid ((HS5.out.below hb4).below hba); have hx6 := HX5.out.below hb4 HX5.out.lt; have HX6 := Lib.hid (hx6.below hba hx6.lt); have HY6 := Lib.hid (or_new w4 v n); clear hb4 hba hx6 x0 x1 x2 x3 x4 x5 x6 x7 x8 x9 x10))
  clear HRM HDX HS4 HX4 HS5 HX5
  generalize w4.alloc (.cells #[.int .i64 v, .int .i64 n] 24) = w5 at *
  generalize w4.heap.size = gy at *
  refine wp_region_last (fun x => (x.cell? ⟨gx, 0, none⟩ = some (.int .i64 0) ∧ x.cell? ⟨gx, 1, none⟩ = some (.bool false) ∧ x.cell? ⟨gx, 2, none⟩ = some (.int .i64 2) ∧ x.cell? ⟨gx, 3, none⟩ = some (.int .u8 v) ∧ x.cell? ⟨gx, 4, none⟩ = some (.int .u8 n) ∧ x.cell? ⟨gx, 5, none⟩ = some (.int .u8 0) ∧ x.cell? ⟨gx, 6, none⟩ = some (.int .u8 0) ∧ x.cell? ⟨gx, 7, none⟩ = some (.int .u8 0) ∧ x.cell? ⟨gx, 8, none⟩ = some (.int .u8 0) ∧ x.cell? ⟨gx, 9, none⟩ = some (.int .u8 0) ∧ x.cell? ⟨gx, 10, none⟩ = some (.int .u8 0)) ∧ (x.cell? ⟨w.heap.size, 0, none⟩ = some (.int .i64 v) ∧ x.cell? ⟨w.heap.size, 1, none⟩ = some (.int .i64 n)) ∧ x.cell? ⟨gy, 0, none⟩ = some (.int .i64 v) ∧ x.cell? ⟨gy, 1, none⟩ = some (.int .i64 n)) 16 (by kernel_rfl) ⟨HX6.out.cells, HS6.out.o.cells, HY6.out.cells⟩ (fun hHeld => ?_)
  replace HS6 : Hid (OrS w w5.drew v n id r k d) := Lib.hid HS6.out.drew
  replace HX6 : Hid (FrAt w5.drew gx 0 false 2 (dOf [v, n])) := HX6
  replace HY6 : Hid (OrAt w5.drew gy v n) := HY6
  generalize w5.drew = w5 at *
  have hqx := HQX.out
  have hqo := run_eq_orders v n
  refine wpAnyL_take (i := 0) (v := ?_) rfl (by kernel_rfl) (by kernel_rfl) (by kernel_rfl) (by kernel_rfl) (by kernel_rfl) (fun _ _ _ h => h) (Or.inl ⟨by rfl, ?_⟩) (by assumption) ?_
  rotate_left
  · intro wq hSw; (try dsimp only at hSw); first | (go_simp; done) | (go_simp; with_reducible rfl) | with_reducible rfl
  try simp only [Act.put, List.setIfInBounds_toArray, List.set_cons_zero, List.set_cons_succ, List.getElem_toArray, List.getElem_cons_zero, List.getElem_cons_succ]
  refine wpAnyL_take (i := 1) (v := .bool false) rfl (by kernel_rfl) (by kernel_rfl) (by kernel_rfl) (by kernel_rfl) (by kernel_rfl) (fun _ _ _ h => h) (Or.inl ⟨by rfl, ?_⟩) (by assumption) ?_
  · intro wq hSw; (try dsimp only at hSw); first | (go_simp; done) | (go_simp; with_reducible rfl) | with_reducible rfl
  try simp only [Act.put, List.setIfInBounds_toArray, List.set_cons_zero, List.set_cons_succ, List.getElem_toArray, List.getElem_cons_zero, List.getElem_cons_succ]
  refine wpAnyL_take (i := 2) (v := ?_) rfl (by kernel_rfl) (by kernel_rfl) (by kernel_rfl) (by kernel_rfl) (by kernel_rfl) (fun _ _ _ h => h) (Or.inl ⟨by rfl, ?_⟩) (by assumption) ?_
  rotate_left
  · intro wq hSw; (try dsimp only at hSw); first | (go_simp; done) | (go_simp; with_reducible rfl) | with_reducible rfl
  try simp only [Act.put, List.setIfInBounds_toArray, List.set_cons_zero, List.set_cons_succ, List.getElem_toArray, List.getElem_cons_zero, List.getElem_cons_succ]
  refine wpAnyL_take (i := 3) (v := .agg #[.int .i64 0, .bool false, .int .i64 2, .int .u8 v, .int .u8 n, .int .u8 0, .int .u8 0, .int .u8 0, .int .u8 0, .int .u8 0, .int .u8 0]) rfl (by kernel_rfl) (by kernel_rfl) (by kernel_rfl) (by kernel_rfl) (by kernel_rfl) (fun _ _ _ h => h) (Or.inl ⟨by rfl, ?_⟩) (by assumption) ?_
  · intro wq hSw; (try dsimp only at hSw); first | (go_simp; done) | (go_simp; with_reducible rfl) | with_reducible rfl
  try simp only [Act.put, List.setIfInBounds_toArray, List.set_cons_zero, List.set_cons_succ, List.getElem_toArray, List.getElem_cons_zero, List.getElem_cons_succ]
  refine wpAnyL_take (i := 4) (v := .agg #[.int .i64 v, .int .i64 n]) rfl (by kernel_rfl) (by kernel_rfl) (by kernel_rfl) (by kernel_rfl) (by kernel_rfl) (fun _ _ _ h => h) (Or.inl ⟨by rfl, ?_⟩) (by assumption) ?_
  · intro wq hSw; (try dsimp only at hSw); first | (go_simp; done) | (go_simp; with_reducible rfl) | with_reducible rfl
  try simp only [Act.put, List.setIfInBounds_toArray, List.set_cons_zero, List.set_cons_succ, List.getElem_toArray, List.getElem_cons_zero, List.getElem_cons_succ]
  refine wpAnyL_ready (rs := [5]) (by kernel_rfl) (by simp) ?_
  refine (AllReadyL.cons rfl (fun K hK => ?_) AllReadyL.nil)
  go_simp
  go_wp2_with fail
  refine (HRE.out _).mono ?_
  rintro e w6 ⟨rfl, hb6⟩
  have HS7 := Lib.hid (HS6.out.below hb6)
  have HX7 := Lib.hid (HX6.out.below hb6 HX6.out.lt)
  have HY7 := Lib.hid (HY6.out.below hb6 HY6.out.lt)
  clear hb6
  refine hK.out _ _ ?_ (fun hHeld => ?_)
  · (try dsimp only); exact ⟨HX7.out.cells, HS7.out.o.cells, HY7.out.cells⟩
  clear hK K
  refine wpAnyL_take (i := 6) (v := .bool false) rfl (by kernel_rfl) (by kernel_rfl) (by kernel_rfl) (by kernel_rfl) (by kernel_rfl) (fun _ _ _ h => h) (Or.inl ⟨by rfl, ?_⟩) (by assumption) ?_
  · intro wq hSw; (try dsimp only at hSw); first | (go_simp; done) | (go_simp; with_reducible rfl) | with_reducible rfl
  try simp only [Act.put, List.setIfInBounds_toArray, List.set_cons_zero, List.set_cons_succ, List.getElem_toArray, List.getElem_cons_zero, List.getElem_cons_succ]
  refine wpAnyL_take (i := 7) (v := .bool false) rfl (by kernel_rfl) (by kernel_rfl) (by kernel_rfl) (by kernel_rfl) (by kernel_rfl) (fun _ _ _ h => h) (Or.inl ⟨by rfl, ?_⟩) (by assumption) ?_
  · intro wq hSw; (try dsimp only at hSw); first | (go_simp; done) | (go_simp; with_reducible rfl) | with_reducible rfl
  try simp only [Act.put, List.setIfInBounds_toArray, List.set_cons_zero, List.set_cons_succ, List.getElem_toArray, List.getElem_cons_zero, List.getElem_cons_succ]
  refine wpAnyL_take (i := 8) (v := .bool false) rfl (by kernel_rfl) (by kernel_rfl) (by kernel_rfl) (by kernel_rfl) (by kernel_rfl) (fun _ _ _ h => h) (Or.inl ⟨by rfl, ?_⟩) (by assumption) ?_
  · intro wq hSw; (try dsimp only at hSw); first | (go_simp; done) | (go_simp; with_reducible rfl) | with_reducible rfl
  try simp only [Act.put, List.setIfInBounds_toArray, List.set_cons_zero, List.set_cons_succ, List.getElem_toArray, List.getElem_cons_zero, List.getElem_cons_succ]
  refine wpAnyL_take (i := 9) (v := ?_) rfl (by kernel_rfl) (by kernel_rfl) (by kernel_rfl) (by kernel_rfl) (by kernel_rfl) (fun _ _ _ h => h) (Or.inl ⟨by rfl, ?_⟩) (by assumption) ?_
  rotate_left
  · intro wq hSw; (try dsimp only at hSw); first | (go_simp; done) | (go_simp; with_reducible rfl) | with_reducible rfl
  try simp only [Act.put, List.setIfInBounds_toArray, List.set_cons_zero, List.set_cons_succ, List.getElem_toArray, List.getElem_cons_zero, List.getElem_cons_succ]
  refine wpAnyL_take (i := 10) (v := .bool false) rfl (by kernel_rfl) (by kernel_rfl) (by kernel_rfl) (by kernel_rfl) (by kernel_rfl) (fun _ _ _ h => h) (Or.inl ⟨by rfl, ?_⟩) (by assumption) ?_
  · intro wq hSw; (try dsimp only at hSw); first | (go_simp; done) | (go_simp; with_reducible rfl) | with_reducible rfl
  try simp only [Act.put, List.setIfInBounds_toArray, List.set_cons_zero, List.set_cons_succ, List.getElem_toArray, List.getElem_cons_zero, List.getElem_cons_succ]
  refine wpAnyL_take (i := 11) (v := .bool false) rfl (by kernel_rfl) (by kernel_rfl) (by kernel_rfl) (by kernel_rfl) (by kernel_rfl) (fun _ _ _ h => h) (Or.inl ⟨by rfl, ?_⟩) (by assumption) ?_
  · intro wq hSw; (try dsimp only at hSw); first | (go_simp; done) | (go_simp; with_reducible rfl) | with_reducible rfl
  try simp only [Act.put, List.setIfInBounds_toArray, List.set_cons_zero, List.set_cons_succ, List.getElem_toArray, List.getElem_cons_zero, List.getElem_cons_succ]
  refine wpAnyL_take (i := 12) (v := .bool false) rfl (by kernel_rfl) (by kernel_rfl) (by kernel_rfl) (by kernel_rfl) (by kernel_rfl) (fun _ _ _ h => h) (Or.inl ⟨by rfl, ?_⟩) (by assumption) ?_
  · intro wq hSw; (try dsimp only at hSw); first | (go_simp; done) | (go_simp; with_reducible rfl) | with_reducible rfl
  try simp only [Act.put, List.setIfInBounds_toArray, List.set_cons_zero, List.set_cons_succ, List.getElem_toArray, List.getElem_cons_zero, List.getElem_cons_succ]
  refine wpAnyL_take (i := 13) (v := .agg #[.int .i64 v, .int .i64 n]) rfl (by kernel_rfl) (by kernel_rfl) (by kernel_rfl) (by kernel_rfl) (by kernel_rfl) (fun _ _ _ h => h) (Or.inl ⟨by rfl, ?_⟩) (by assumption) ?_
  · intro wq hSw; (try dsimp only at hSw); first | (go_simp; done) | (go_simp; with_reducible rfl) | with_reducible rfl
  try simp only [Act.put, List.setIfInBounds_toArray, List.set_cons_zero, List.set_cons_succ, List.getElem_toArray, List.getElem_cons_zero, List.getElem_cons_succ]
  refine wpAnyL_take (i := 14) (v := .agg #[.int .i64 v, .int .i64 n]) rfl (by kernel_rfl) (by kernel_rfl) (by kernel_rfl) (by kernel_rfl) (by kernel_rfl) (fun _ _ _ h => h) (Or.inl ⟨by rfl, ?_⟩) (by assumption) ?_
  · intro wq hSw; (try dsimp only at hSw); first | (go_simp; done) | (go_simp; with_reducible rfl) | with_reducible rfl
  try simp only [Act.put, List.setIfInBounds_toArray, List.set_cons_zero, List.set_cons_succ, List.getElem_toArray, List.getElem_cons_zero, List.getElem_cons_succ]
  refine wpAnyL_take (i := 15) (v := .bool false) rfl (by kernel_rfl) (by kernel_rfl) (by kernel_rfl) (by kernel_rfl) (by kernel_rfl) (fun _ _ _ h => h) (Or.inl ⟨by rfl, ?_⟩) (by assumption) ?_
  · intro wq hSw; (try dsimp only at hSw); first | (go_simp; done) | (go_simp; with_reducible rfl) | with_reducible rfl
  try simp only [Act.put, List.setIfInBounds_toArray, List.set_cons_zero, List.set_cons_succ, List.getElem_toArray, List.getElem_cons_zero, List.getElem_cons_succ]
  refine wpAnyL_ready (rs := [16]) (by kernel_rfl) (by simp) ?_
  refine AllReadyL.last rfl (fun K hK => ?_)
  go_simp
  refine hK.out _ _ ?_
  clear hK K
  refine wpAnyL_done (by kernel_rfl) ?_ _
  clear hHeld
  go_simp
  clear HRE HX6 HY6 HS6 HX7 HY7 hqx hqo HQX
  have HS8 := HS7
  clear HS7
  generalize w6 = w8 at *
  obtain ⟨f0, f1, f2, f3, f4, f5, f6, f7, f8, f9, f10⟩ := HS8.out.f.cells
  go_upto_region 10 with (first
    | (go_at_call 9; refine (HDY.out _).mono ?_; rintro e w9 ⟨rfl, hb9⟩; have hba : Below w9.heap.size w9 (w9.alloc (.cells #[.int .i64 (d 0), .int .i64 (d 1)] 24)) := (Below.refl _ _).alloc (Nat.le_refl _) _; have HS9 := Lib.hid ((HS8.out.below hb9).below hba); have HY9 := Lib.hid (or_new w9 (d 0) (d 1)); clear hb9 hba f0 f1 f2 f3 f4 f5 f6 f7 f8 f9 f10; obtain ⟨f0, f1, f2, f3, f4, f5, f6, f7, f8, f9, f10⟩ := HS9.out.f.cells)
    | (go_at_call 11; refine (HRY.out _).mono ?_; rintro e w10 ⟨rfl, hb10⟩; have hba : Below w10.heap.size w10 (w10.alloc (.cells #[.int .i64 (d 0), .int .i64 (d 1)] 24)) := (Below.refl _ _).alloc (Nat.le_refl _) _; have HS10 := Lib.hid ((HS9.out.below hb10).below hba); have hy10 := HY9.out.below hb10 HY9.out.lt; have HY10 := Lib.hid (hy10.below hba hy10.lt); have HZ10 := Lib.hid (or_new w10 (d 0) (d 1)); clear hb10 hba hy10 f0 f1 f2 f3 f4 f5 f6 f7 f8 f9 f10))
  clear HDY HRY HS8 HS9 HY9
  generalize (w10.alloc (.cells #[.int .i64 (d 0), .int .i64 (d 1)] 24)) = w11 at *
  generalize w10.heap.size = gz at *
  generalize w9.heap.size = gy9 at *
  obtain ⟨y0, y1⟩ := HY10.out.cells
  obtain ⟨z0, z1⟩ := HZ10.out.cells
  have hqo := run_eq_orders (d 0) (d 1)
  go_upto_region 13 with (first
    | (go_at_call 7; refine (HB2.out _).mono ?_; rintro e w12 ⟨rfl, hb12⟩; have HS12 := Lib.hid (HS10.out.below hb12); have hx3 : FrAt (w12.alloc (.cells #[.int .i64 0, .bool false, .int .i64 0, .int .u8 0, .int .u8 0, .int .u8 0, .int .u8 0, .int .u8 0, .int .u8 0, .int .u8 0, .int .u8 0] 27)) w12.heap.size 0 false 0 (fun _ => 0) := frame_new w12 0 0 false (fun _ => 0); have hba : Below w12.heap.size w12 (w12.alloc (.cells #[.int .i64 0, .bool false, .int .i64 0, .int .u8 0, .int .u8 0, .int .u8 0, .int .u8 0, .int .u8 0, .int .u8 0, .int .u8 0, .int .u8 0] 27)) := (Below.refl _ _).alloc (Nat.le_refl _) _; have HX3 := Lib.hid hx3; have HX4 := Lib.hid (show FrAt ((w12.alloc (.cells #[.int .i64 0, .bool false, .int .i64 0, .int .u8 0, .int .u8 0, .int .u8 0, .int .u8 0, .int .u8 0, .int .u8 0, .int .u8 0, .int .u8 0] 27)).setRow w12.heap.size #[.int .i64 0, .bool false, .int .i64 2, .int .u8 (d 0), .int .u8 (d 1), .int .u8 0, .int .u8 0, .int .u8 0, .int .u8 0, .int .u8 0, .int .u8 0]) w12.heap.size 0 false 2 (dOf [d 0, d 1]) from hx3.row 0 2 false (dOf [d 0, d 1])); have HS13 := Lib.hid ((HS12.out.below hba).setRow HS12.out.f.lt #[.int .i64 0, .bool false, .int .i64 2, .int .u8 (d 0), .int .u8 (d 1), .int .u8 0, .int .u8 0, .int .u8 0, .int .u8 0, .int .u8 0, .int .u8 0]); clear hx3 hb12 hba y0 y1 z0 z1)
    | (refine wpList_store_row rfl _ (.tmp 13) (.tmp 72) rfl w12.heap.size _ rfl rfl _ _ HX3.out info_frame rfl (one_frame 0 2 false (dOf [d 0, d 1])) ?_))
  clear HX3 HS12 HB2 hqo HS10 HY10 HZ10
  generalize (w12.alloc (.cells #[.int .i64 0, .bool false, .int .i64 0, .int .u8 0, .int .u8 0, .int .u8 0, .int .u8 0, .int .u8 0, .int .u8 0, .int .u8 0, .int .u8 0] 27)).setRow w12.heap.size #[.int .i64 0, .bool false, .int .i64 2, .int .u8 (d 0), .int .u8 (d 1), .int .u8 0, .int .u8 0, .int .u8 0, .int .u8 0, .int .u8 0, .int .u8 0] = w13 at HX4 HS13 ⊢
  generalize w12.heap.size = gb at *
  have hqb := HQB.out
  go_wp2_with (go_at_call 12; refine (live21_any _).mono ?_; rintro e w14 ⟨rfl, hb14⟩; have HS14 := Lib.hid (HS13.out.below hb14); have HX14 := Lib.hid (HX4.out.below hb14 HX4.out.lt); clear hb14; obtain ⟨f0, f1, f2, f3, f4, f5, f6, f7, f8, f9, f10⟩ := HS14.out.f.cells; obtain ⟨x0, x1, x2, x3, x4, x5, x6, x7, x8, x9, x10⟩ : w14.cell? ⟨gb, 0, none⟩ = some (.int .i64 0) ∧ w14.cell? ⟨gb, 1, none⟩ = some (.bool false) ∧ w14.cell? ⟨gb, 2, none⟩ = some (.int .i64 2) ∧ w14.cell? ⟨gb, 3, none⟩ = some (.int .u8 (d 0)) ∧ w14.cell? ⟨gb, 4, none⟩ = some (.int .u8 (d 1)) ∧ w14.cell? ⟨gb, 5, none⟩ = some (.int .u8 0) ∧ w14.cell? ⟨gb, 6, none⟩ = some (.int .u8 0) ∧ w14.cell? ⟨gb, 7, none⟩ = some (.int .u8 0) ∧ w14.cell? ⟨gb, 8, none⟩ = some (.int .u8 0) ∧ w14.cell? ⟨gb, 9, none⟩ = some (.int .u8 0) ∧ w14.cell? ⟨gb, 10, none⟩ = some (.int .u8 0) := HX14.out.cells)
  all_goals first | (go_ret; exact ⟨rfl, HS14.out.bel⟩) | (trace_state; sorry)
end Go.Proofs.Ytnijdcbpllmieaa
