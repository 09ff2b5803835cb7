/- What the document's in and row answer. -/
import Derived.Test.YtoamgdcjmkkmfaaKi
namespace Go.Proofs.Ytoamgdcjmkkmfaa
open Go.RowKit
set_option linter.unusedSimpArgs false
set_option linter.unusedVariables false
set_option maxHeartbeats 4000000

theorem in_any (n lo hi : Int) (w : World) : Calls Try.prog 41 #[.int .i64 n, .int .i64 lo, .int .i64 hi] w fun e w' => e = .returned (.bool (inB n lo hi)) ∧ w = w' := by
  go_enter Try.func41, Try.ntmps41
  go_wp2_with fail
  all_goals (go_ret; refine ⟨?_, rfl⟩; apply ret_bool; unfold inB; simp; try omega)
theorem info_rowx : (Try.prog.info? 41).map (·.size) = some 11 := by kernel_rfl
/-- The table's row of a Cmd. -/
def rowX (c : Int) : Array Value :=
  if c = 1 then #[.int .i64 32, .bool true, .bool false, .bool false, .bool true, .bool false, .bool true, .bool false, .bool false, .bool false, .bool false] else if c = 2 then #[.int .i64 0, .bool false, .bool true, .bool true, .bool false, .bool false, .bool false, .bool true, .bool false, .bool false, .bool false] else if c = 3 then #[.int .i64 64, .bool true, .bool false, .bool false, .bool false, .bool false, .bool false, .bool false, .bool false, .bool false, .bool false] else if c = 4 then #[.int .i64 96, .bool false, .bool true, .bool false, .bool false, .bool false, .bool false, .bool false, .bool false, .bool false, .bool false] else if c = 5 then #[.int .i64 192, .bool true, .bool false, .bool false, .bool false, .bool true, .bool true, .bool false, .bool false, .bool false, .bool false] else if c = 6 then #[.int .i64 160, .bool true, .bool false, .bool false, .bool false, .bool true, .bool false, .bool false, .bool false, .bool true, .bool false] else if c = 7 then #[.int .i64 163, .bool false, .bool false, .bool false, .bool false, .bool false, .bool false, .bool false, .bool false, .bool false, .bool false] else if c = 8 then #[.int .i64 96, .bool true, .bool false, .bool false, .bool false, .bool false, .bool false, .bool false, .bool false, .bool false, .bool false] else if c = 9 then #[.int .i64 32, .bool false, .bool true, .bool false, .bool false, .bool false, .bool false, .bool false, .bool false, .bool false, .bool false] else if c = 10 then #[.int .i64 64, .bool true, .bool false, .bool false, .bool true, .bool false, .bool true, .bool false, .bool false, .bool false, .bool false] else if c = 11 then #[.int .i64 0, .bool false, .bool true, .bool true, .bool false, .bool false, .bool false, .bool true, .bool false, .bool false, .bool false] else if c = 12 then #[.int .i64 160, .bool true, .bool false, .bool false, .bool false, .bool true, .bool false, .bool false, .bool false, .bool true, .bool false] else if c = 13 then #[.int .i64 192, .bool true, .bool false, .bool false, .bool false, .bool true, .bool true, .bool false, .bool false, .bool false, .bool false] else if c = 14 then #[.int .i64 128, .bool true, .bool false, .bool false, .bool false, .bool false, .bool false, .bool false, .bool true, .bool false, .bool false] else if c = 15 then #[.int .i64 162, .bool false, .bool false, .bool false, .bool false, .bool false, .bool false, .bool false, .bool false, .bool true, .bool false] else if c = 16 then #[.int .i64 193, .bool false, .bool false, .bool false, .bool false, .bool false, .bool false, .bool false, .bool false, .bool false, .bool true] else if c = 17 then #[.int .i64 161, .bool false, .bool false, .bool false, .bool false, .bool false, .bool false, .bool false, .bool false, .bool false, .bool false] else #[.int .i64 0, .bool false, .bool false, .bool false, .bool false, .bool false, .bool false, .bool false, .bool false, .bool false, .bool false]
theorem one_rowx (b : Int) (k1 k2 k3 k4 k5 k6 k7 k8 k9 k0 : Bool) : (#[.int .i64 b, .bool k1, .bool k2, .bool k3, .bool k4, .bool k5, .bool k6, .bool k7, .bool k8, .bool k9, .bool k0] : Array Value).all (·.oneCell') = true := by simp [Value.oneCell']
theorem rowx_1 (w : World) : Calls Try.prog 10 #[.int .i64 1] w fun e w' => e = .returned (.tuple #[.agg (rowX 1), .bool true]) ∧ Below w.heap.size w w' := by
  have hz : (w.alloc (.cells #[.int .i64 0, .bool false, .bool false, .bool false, .bool false, .bool false, .bool false, .bool false, .bool false, .bool false, .bool false] 41)).heap[w.heap.size]? = some (.cells #[.int .i64 0, .bool false, .bool false, .bool false, .bool false, .bool false, .bool false, .bool false, .bool false, .bool false, .bool false] 41 (0, 0)) := heap_alloc_new w _
  have HZ := Lib.hid hz
  clear hz
  go_enter Try.func10, Try.ntmps10
  go_wp2_with (refine wpList_store_row rfl 41 (.tmp 2) (.tmp 7) rfl w.heap.size #[.int .i64 32, .bool true, .bool false, .bool false, .bool true, .bool false, .bool true, .bool false, .bool false, .bool false, .bool false] rfl rfl _ _ HZ.out info_rowx rfl (one_rowx 32 true false false true false true false false false false) ?_)
  exact bodyPost_ret ((results_cell_tmp_row rfl _ _ w.heap.size _ _ _ _ rfl (setRow_heap _ _ _ #[.int .i64 32, .bool true, .bool false, .bool false, .bool true, .bool false, .bool true, .bool false, .bool false, .bool false, .bool false] _ _ HZ.out) Try.underlying41 rfl info_rowx).trans (by rfl)) rfl ⟨rfl, below_setRow ((Below.refl _ _).alloc (Nat.le_refl _) _) (Nat.le_refl _) _⟩
theorem rowx_2 (w : World) : Calls Try.prog 10 #[.int .i64 2] w fun e w' => e = .returned (.tuple #[.agg (rowX 2), .bool true]) ∧ Below w.heap.size w w' := by
  have hz : (w.alloc (.cells #[.int .i64 0, .bool false, .bool false, .bool false, .bool false, .bool false, .bool false, .bool false, .bool false, .bool false, .bool false] 41)).heap[w.heap.size]? = some (.cells #[.int .i64 0, .bool false, .bool false, .bool false, .bool false, .bool false, .bool false, .bool false, .bool false, .bool false, .bool false] 41 (0, 0)) := heap_alloc_new w _
  have HZ := Lib.hid hz
  clear hz
  go_enter Try.func10, Try.ntmps10
  go_wp2_with (refine wpList_store_row rfl 41 (.tmp 2) (.tmp 11) rfl w.heap.size #[.int .i64 0, .bool false, .bool true, .bool true, .bool false, .bool false, .bool false, .bool true, .bool false, .bool false, .bool false] rfl rfl _ _ HZ.out info_rowx rfl (one_rowx 0 false true true false false false true false false false) ?_)
  exact bodyPost_ret ((results_cell_tmp_row rfl _ _ w.heap.size _ _ _ _ rfl (setRow_heap _ _ _ #[.int .i64 0, .bool false, .bool true, .bool true, .bool false, .bool false, .bool false, .bool true, .bool false, .bool false, .bool false] _ _ HZ.out) Try.underlying41 rfl info_rowx).trans (by rfl)) rfl ⟨rfl, below_setRow ((Below.refl _ _).alloc (Nat.le_refl _) _) (Nat.le_refl _) _⟩
theorem rowx_3 (w : World) : Calls Try.prog 10 #[.int .i64 3] w fun e w' => e = .returned (.tuple #[.agg (rowX 3), .bool true]) ∧ Below w.heap.size w w' := by
  have hz : (w.alloc (.cells #[.int .i64 0, .bool false, .bool false, .bool false, .bool false, .bool false, .bool false, .bool false, .bool false, .bool false, .bool false] 41)).heap[w.heap.size]? = some (.cells #[.int .i64 0, .bool false, .bool false, .bool false, .bool false, .bool false, .bool false, .bool false, .bool false, .bool false, .bool false] 41 (0, 0)) := heap_alloc_new w _
  have HZ := Lib.hid hz
  clear hz
  go_enter Try.func10, Try.ntmps10
  go_wp2_with (refine wpList_store_row rfl 41 (.tmp 2) (.tmp 14) rfl w.heap.size #[.int .i64 64, .bool true, .bool false, .bool false, .bool false, .bool false, .bool false, .bool false, .bool false, .bool false, .bool false] rfl rfl _ _ HZ.out info_rowx rfl (one_rowx 64 true false false false false false false false false false) ?_)
  exact bodyPost_ret ((results_cell_tmp_row rfl _ _ w.heap.size _ _ _ _ rfl (setRow_heap _ _ _ #[.int .i64 64, .bool true, .bool false, .bool false, .bool false, .bool false, .bool false, .bool false, .bool false, .bool false, .bool false] _ _ HZ.out) Try.underlying41 rfl info_rowx).trans (by rfl)) rfl ⟨rfl, below_setRow ((Below.refl _ _).alloc (Nat.le_refl _) _) (Nat.le_refl _) _⟩
theorem rowx_4 (w : World) : Calls Try.prog 10 #[.int .i64 4] w fun e w' => e = .returned (.tuple #[.agg (rowX 4), .bool true]) ∧ Below w.heap.size w w' := by
  have hz : (w.alloc (.cells #[.int .i64 0, .bool false, .bool false, .bool false, .bool false, .bool false, .bool false, .bool false, .bool false, .bool false, .bool false] 41)).heap[w.heap.size]? = some (.cells #[.int .i64 0, .bool false, .bool false, .bool false, .bool false, .bool false, .bool false, .bool false, .bool false, .bool false, .bool false] 41 (0, 0)) := heap_alloc_new w _
  have HZ := Lib.hid hz
  clear hz
  go_enter Try.func10, Try.ntmps10
  go_wp2_with (refine wpList_store_row rfl 41 (.tmp 2) (.tmp 17) rfl w.heap.size #[.int .i64 96, .bool false, .bool true, .bool false, .bool false, .bool false, .bool false, .bool false, .bool false, .bool false, .bool false] rfl rfl _ _ HZ.out info_rowx rfl (one_rowx 96 false true false false false false false false false false) ?_)
  exact bodyPost_ret ((results_cell_tmp_row rfl _ _ w.heap.size _ _ _ _ rfl (setRow_heap _ _ _ #[.int .i64 96, .bool false, .bool true, .bool false, .bool false, .bool false, .bool false, .bool false, .bool false, .bool false, .bool false] _ _ HZ.out) Try.underlying41 rfl info_rowx).trans (by rfl)) rfl ⟨rfl, below_setRow ((Below.refl _ _).alloc (Nat.le_refl _) _) (Nat.le_refl _) _⟩
theorem rowx_5 (w : World) : Calls Try.prog 10 #[.int .i64 5] w fun e w' => e = .returned (.tuple #[.agg (rowX 5), .bool true]) ∧ Below w.heap.size w w' := by
  have hz : (w.alloc (.cells #[.int .i64 0, .bool false, .bool false, .bool false, .bool false, .bool false, .bool false, .bool false, .bool false, .bool false, .bool false] 41)).heap[w.heap.size]? = some (.cells #[.int .i64 0, .bool false, .bool false, .bool false, .bool false, .bool false, .bool false, .bool false, .bool false, .bool false, .bool false] 41 (0, 0)) := heap_alloc_new w _
  have HZ := Lib.hid hz
  clear hz
  go_enter Try.func10, Try.ntmps10
  go_wp2_with (refine wpList_store_row rfl 41 (.tmp 2) (.tmp 21) rfl w.heap.size #[.int .i64 192, .bool true, .bool false, .bool false, .bool false, .bool true, .bool true, .bool false, .bool false, .bool false, .bool false] rfl rfl _ _ HZ.out info_rowx rfl (one_rowx 192 true false false false true true false false false false) ?_)
  exact bodyPost_ret ((results_cell_tmp_row rfl _ _ w.heap.size _ _ _ _ rfl (setRow_heap _ _ _ #[.int .i64 192, .bool true, .bool false, .bool false, .bool false, .bool true, .bool true, .bool false, .bool false, .bool false, .bool false] _ _ HZ.out) Try.underlying41 rfl info_rowx).trans (by rfl)) rfl ⟨rfl, below_setRow ((Below.refl _ _).alloc (Nat.le_refl _) _) (Nat.le_refl _) _⟩
theorem rowx_6 (w : World) : Calls Try.prog 10 #[.int .i64 6] w fun e w' => e = .returned (.tuple #[.agg (rowX 6), .bool true]) ∧ Below w.heap.size w w' := by
  have hz : (w.alloc (.cells #[.int .i64 0, .bool false, .bool false, .bool false, .bool false, .bool false, .bool false, .bool false, .bool false, .bool false, .bool false] 41)).heap[w.heap.size]? = some (.cells #[.int .i64 0, .bool false, .bool false, .bool false, .bool false, .bool false, .bool false, .bool false, .bool false, .bool false, .bool false] 41 (0, 0)) := heap_alloc_new w _
  have HZ := Lib.hid hz
  clear hz
  go_enter Try.func10, Try.ntmps10
  go_wp2_with (refine wpList_store_row rfl 41 (.tmp 2) (.tmp 25) rfl w.heap.size #[.int .i64 160, .bool true, .bool false, .bool false, .bool false, .bool true, .bool false, .bool false, .bool false, .bool true, .bool false] rfl rfl _ _ HZ.out info_rowx rfl (one_rowx 160 true false false false true false false false true false) ?_)
  exact bodyPost_ret ((results_cell_tmp_row rfl _ _ w.heap.size _ _ _ _ rfl (setRow_heap _ _ _ #[.int .i64 160, .bool true, .bool false, .bool false, .bool false, .bool true, .bool false, .bool false, .bool false, .bool true, .bool false] _ _ HZ.out) Try.underlying41 rfl info_rowx).trans (by rfl)) rfl ⟨rfl, below_setRow ((Below.refl _ _).alloc (Nat.le_refl _) _) (Nat.le_refl _) _⟩
theorem rowx_7 (w : World) : Calls Try.prog 10 #[.int .i64 7] w fun e w' => e = .returned (.tuple #[.agg (rowX 7), .bool true]) ∧ Below w.heap.size w w' := by
  have hz : (w.alloc (.cells #[.int .i64 0, .bool false, .bool false, .bool false, .bool false, .bool false, .bool false, .bool false, .bool false, .bool false, .bool false] 41)).heap[w.heap.size]? = some (.cells #[.int .i64 0, .bool false, .bool false, .bool false, .bool false, .bool false, .bool false, .bool false, .bool false, .bool false, .bool false] 41 (0, 0)) := heap_alloc_new w _
  have HZ := Lib.hid hz
  clear hz
  go_enter Try.func10, Try.ntmps10
  go_wp2_with (refine wpList_store_row rfl 41 (.tmp 2) (.tmp 28) rfl w.heap.size #[.int .i64 163, .bool false, .bool false, .bool false, .bool false, .bool false, .bool false, .bool false, .bool false, .bool false, .bool false] rfl rfl _ _ HZ.out info_rowx rfl (one_rowx 163 false false false false false false false false false false) ?_)
  exact bodyPost_ret ((results_cell_tmp_row rfl _ _ w.heap.size _ _ _ _ rfl (setRow_heap _ _ _ #[.int .i64 163, .bool false, .bool false, .bool false, .bool false, .bool false, .bool false, .bool false, .bool false, .bool false, .bool false] _ _ HZ.out) Try.underlying41 rfl info_rowx).trans (by rfl)) rfl ⟨rfl, below_setRow ((Below.refl _ _).alloc (Nat.le_refl _) _) (Nat.le_refl _) _⟩
theorem rowx_8 (w : World) : Calls Try.prog 10 #[.int .i64 8] w fun e w' => e = .returned (.tuple #[.agg (rowX 8), .bool true]) ∧ Below w.heap.size w w' := by
  have hz : (w.alloc (.cells #[.int .i64 0, .bool false, .bool false, .bool false, .bool false, .bool false, .bool false, .bool false, .bool false, .bool false, .bool false] 41)).heap[w.heap.size]? = some (.cells #[.int .i64 0, .bool false, .bool false, .bool false, .bool false, .bool false, .bool false, .bool false, .bool false, .bool false, .bool false] 41 (0, 0)) := heap_alloc_new w _
  have HZ := Lib.hid hz
  clear hz
  go_enter Try.func10, Try.ntmps10
  go_wp2_with (refine wpList_store_row rfl 41 (.tmp 2) (.tmp 31) rfl w.heap.size #[.int .i64 96, .bool true, .bool false, .bool false, .bool false, .bool false, .bool false, .bool false, .bool false, .bool false, .bool false] rfl rfl _ _ HZ.out info_rowx rfl (one_rowx 96 true false false false false false false false false false) ?_)
  exact bodyPost_ret ((results_cell_tmp_row rfl _ _ w.heap.size _ _ _ _ rfl (setRow_heap _ _ _ #[.int .i64 96, .bool true, .bool false, .bool false, .bool false, .bool false, .bool false, .bool false, .bool false, .bool false, .bool false] _ _ HZ.out) Try.underlying41 rfl info_rowx).trans (by rfl)) rfl ⟨rfl, below_setRow ((Below.refl _ _).alloc (Nat.le_refl _) _) (Nat.le_refl _) _⟩
theorem rowx_9 (w : World) : Calls Try.prog 10 #[.int .i64 9] w fun e w' => e = .returned (.tuple #[.agg (rowX 9), .bool true]) ∧ Below w.heap.size w w' := by
  have hz : (w.alloc (.cells #[.int .i64 0, .bool false, .bool false, .bool false, .bool false, .bool false, .bool false, .bool false, .bool false, .bool false, .bool false] 41)).heap[w.heap.size]? = some (.cells #[.int .i64 0, .bool false, .bool false, .bool false, .bool false, .bool false, .bool false, .bool false, .bool false, .bool false, .bool false] 41 (0, 0)) := heap_alloc_new w _
  have HZ := Lib.hid hz
  clear hz
  go_enter Try.func10, Try.ntmps10
  go_wp2_with (refine wpList_store_row rfl 41 (.tmp 2) (.tmp 34) rfl w.heap.size #[.int .i64 32, .bool false, .bool true, .bool false, .bool false, .bool false, .bool false, .bool false, .bool false, .bool false, .bool false] rfl rfl _ _ HZ.out info_rowx rfl (one_rowx 32 false true false false false false false false false false) ?_)
  exact bodyPost_ret ((results_cell_tmp_row rfl _ _ w.heap.size _ _ _ _ rfl (setRow_heap _ _ _ #[.int .i64 32, .bool false, .bool true, .bool false, .bool false, .bool false, .bool false, .bool false, .bool false, .bool false, .bool false] _ _ HZ.out) Try.underlying41 rfl info_rowx).trans (by rfl)) rfl ⟨rfl, below_setRow ((Below.refl _ _).alloc (Nat.le_refl _) _) (Nat.le_refl _) _⟩
theorem rowx_10 (w : World) : Calls Try.prog 10 #[.int .i64 10] w fun e w' => e = .returned (.tuple #[.agg (rowX 10), .bool true]) ∧ Below w.heap.size w w' := by
  have hz : (w.alloc (.cells #[.int .i64 0, .bool false, .bool false, .bool false, .bool false, .bool false, .bool false, .bool false, .bool false, .bool false, .bool false] 41)).heap[w.heap.size]? = some (.cells #[.int .i64 0, .bool false, .bool false, .bool false, .bool false, .bool false, .bool false, .bool false, .bool false, .bool false, .bool false] 41 (0, 0)) := heap_alloc_new w _
  have HZ := Lib.hid hz
  clear hz
  go_enter Try.func10, Try.ntmps10
  go_wp2_with (refine wpList_store_row rfl 41 (.tmp 2) (.tmp 37) rfl w.heap.size #[.int .i64 64, .bool true, .bool false, .bool false, .bool true, .bool false, .bool true, .bool false, .bool false, .bool false, .bool false] rfl rfl _ _ HZ.out info_rowx rfl (one_rowx 64 true false false true false true false false false false) ?_)
  exact bodyPost_ret ((results_cell_tmp_row rfl _ _ w.heap.size _ _ _ _ rfl (setRow_heap _ _ _ #[.int .i64 64, .bool true, .bool false, .bool false, .bool true, .bool false, .bool true, .bool false, .bool false, .bool false, .bool false] _ _ HZ.out) Try.underlying41 rfl info_rowx).trans (by rfl)) rfl ⟨rfl, below_setRow ((Below.refl _ _).alloc (Nat.le_refl _) _) (Nat.le_refl _) _⟩
theorem rowx_11 (w : World) : Calls Try.prog 10 #[.int .i64 11] w fun e w' => e = .returned (.tuple #[.agg (rowX 11), .bool true]) ∧ Below w.heap.size w w' := by
  have hz : (w.alloc (.cells #[.int .i64 0, .bool false, .bool false, .bool false, .bool false, .bool false, .bool false, .bool false, .bool false, .bool false, .bool false] 41)).heap[w.heap.size]? = some (.cells #[.int .i64 0, .bool false, .bool false, .bool false, .bool false, .bool false, .bool false, .bool false, .bool false, .bool false, .bool false] 41 (0, 0)) := heap_alloc_new w _
  have HZ := Lib.hid hz
  clear hz
  go_enter Try.func10, Try.ntmps10
  go_wp2_with (refine wpList_store_row rfl 41 (.tmp 2) (.tmp 11) rfl w.heap.size #[.int .i64 0, .bool false, .bool true, .bool true, .bool false, .bool false, .bool false, .bool true, .bool false, .bool false, .bool false] rfl rfl _ _ HZ.out info_rowx rfl (one_rowx 0 false true true false false false true false false false) ?_)
  exact bodyPost_ret ((results_cell_tmp_row rfl _ _ w.heap.size _ _ _ _ rfl (setRow_heap _ _ _ #[.int .i64 0, .bool false, .bool true, .bool true, .bool false, .bool false, .bool false, .bool true, .bool false, .bool false, .bool false] _ _ HZ.out) Try.underlying41 rfl info_rowx).trans (by rfl)) rfl ⟨rfl, below_setRow ((Below.refl _ _).alloc (Nat.le_refl _) _) (Nat.le_refl _) _⟩
theorem rowx_12 (w : World) : Calls Try.prog 10 #[.int .i64 12] w fun e w' => e = .returned (.tuple #[.agg (rowX 12), .bool true]) ∧ Below w.heap.size w w' := by
  have hz : (w.alloc (.cells #[.int .i64 0, .bool false, .bool false, .bool false, .bool false, .bool false, .bool false, .bool false, .bool false, .bool false, .bool false] 41)).heap[w.heap.size]? = some (.cells #[.int .i64 0, .bool false, .bool false, .bool false, .bool false, .bool false, .bool false, .bool false, .bool false, .bool false, .bool false] 41 (0, 0)) := heap_alloc_new w _
  have HZ := Lib.hid hz
  clear hz
  go_enter Try.func10, Try.ntmps10
  go_wp2_with (refine wpList_store_row rfl 41 (.tmp 2) (.tmp 25) rfl w.heap.size #[.int .i64 160, .bool true, .bool false, .bool false, .bool false, .bool true, .bool false, .bool false, .bool false, .bool true, .bool false] rfl rfl _ _ HZ.out info_rowx rfl (one_rowx 160 true false false false true false false false true false) ?_)
  exact bodyPost_ret ((results_cell_tmp_row rfl _ _ w.heap.size _ _ _ _ rfl (setRow_heap _ _ _ #[.int .i64 160, .bool true, .bool false, .bool false, .bool false, .bool true, .bool false, .bool false, .bool false, .bool true, .bool false] _ _ HZ.out) Try.underlying41 rfl info_rowx).trans (by rfl)) rfl ⟨rfl, below_setRow ((Below.refl _ _).alloc (Nat.le_refl _) _) (Nat.le_refl _) _⟩
theorem rowx_13 (w : World) : Calls Try.prog 10 #[.int .i64 13] w fun e w' => e = .returned (.tuple #[.agg (rowX 13), .bool true]) ∧ Below w.heap.size w w' := by
  have hz : (w.alloc (.cells #[.int .i64 0, .bool false, .bool false, .bool false, .bool false, .bool false, .bool false, .bool false, .bool false, .bool false, .bool false] 41)).heap[w.heap.size]? = some (.cells #[.int .i64 0, .bool false, .bool false, .bool false, .bool false, .bool false, .bool false, .bool false, .bool false, .bool false, .bool false] 41 (0, 0)) := heap_alloc_new w _
  have HZ := Lib.hid hz
  clear hz
  go_enter Try.func10, Try.ntmps10
  go_wp2_with (refine wpList_store_row rfl 41 (.tmp 2) (.tmp 21) rfl w.heap.size #[.int .i64 192, .bool true, .bool false, .bool false, .bool false, .bool true, .bool true, .bool false, .bool false, .bool false, .bool false] rfl rfl _ _ HZ.out info_rowx rfl (one_rowx 192 true false false false true true false false false false) ?_)
  exact bodyPost_ret ((results_cell_tmp_row rfl _ _ w.heap.size _ _ _ _ rfl (setRow_heap _ _ _ #[.int .i64 192, .bool true, .bool false, .bool false, .bool false, .bool true, .bool true, .bool false, .bool false, .bool false, .bool false] _ _ HZ.out) Try.underlying41 rfl info_rowx).trans (by rfl)) rfl ⟨rfl, below_setRow ((Below.refl _ _).alloc (Nat.le_refl _) _) (Nat.le_refl _) _⟩
theorem rowx_14 (w : World) : Calls Try.prog 10 #[.int .i64 14] w fun e w' => e = .returned (.tuple #[.agg (rowX 14), .bool true]) ∧ Below w.heap.size w w' := by
  have hz : (w.alloc (.cells #[.int .i64 0, .bool false, .bool false, .bool false, .bool false, .bool false, .bool false, .bool false, .bool false, .bool false, .bool false] 41)).heap[w.heap.size]? = some (.cells #[.int .i64 0, .bool false, .bool false, .bool false, .bool false, .bool false, .bool false, .bool false, .bool false, .bool false, .bool false] 41 (0, 0)) := heap_alloc_new w _
  have HZ := Lib.hid hz
  clear hz
  go_enter Try.func10, Try.ntmps10
  go_wp2_with (refine wpList_store_row rfl 41 (.tmp 2) (.tmp 40) rfl w.heap.size #[.int .i64 128, .bool true, .bool false, .bool false, .bool false, .bool false, .bool false, .bool false, .bool true, .bool false, .bool false] rfl rfl _ _ HZ.out info_rowx rfl (one_rowx 128 true false false false false false false true false false) ?_)
  exact bodyPost_ret ((results_cell_tmp_row rfl _ _ w.heap.size _ _ _ _ rfl (setRow_heap _ _ _ #[.int .i64 128, .bool true, .bool false, .bool false, .bool false, .bool false, .bool false, .bool false, .bool true, .bool false, .bool false] _ _ HZ.out) Try.underlying41 rfl info_rowx).trans (by rfl)) rfl ⟨rfl, below_setRow ((Below.refl _ _).alloc (Nat.le_refl _) _) (Nat.le_refl _) _⟩
theorem rowx_15 (w : World) : Calls Try.prog 10 #[.int .i64 15] w fun e w' => e = .returned (.tuple #[.agg (rowX 15), .bool true]) ∧ Below w.heap.size w w' := by
  have hz : (w.alloc (.cells #[.int .i64 0, .bool false, .bool false, .bool false, .bool false, .bool false, .bool false, .bool false, .bool false, .bool false, .bool false] 41)).heap[w.heap.size]? = some (.cells #[.int .i64 0, .bool false, .bool false, .bool false, .bool false, .bool false, .bool false, .bool false, .bool false, .bool false, .bool false] 41 (0, 0)) := heap_alloc_new w _
  have HZ := Lib.hid hz
  clear hz
  go_enter Try.func10, Try.ntmps10
  go_wp2_with (refine wpList_store_row rfl 41 (.tmp 2) (.tmp 43) rfl w.heap.size #[.int .i64 162, .bool false, .bool false, .bool false, .bool false, .bool false, .bool false, .bool false, .bool false, .bool true, .bool false] rfl rfl _ _ HZ.out info_rowx rfl (one_rowx 162 false false false false false false false false true false) ?_)
  exact bodyPost_ret ((results_cell_tmp_row rfl _ _ w.heap.size _ _ _ _ rfl (setRow_heap _ _ _ #[.int .i64 162, .bool false, .bool false, .bool false, .bool false, .bool false, .bool false, .bool false, .bool false, .bool true, .bool false] _ _ HZ.out) Try.underlying41 rfl info_rowx).trans (by rfl)) rfl ⟨rfl, below_setRow ((Below.refl _ _).alloc (Nat.le_refl _) _) (Nat.le_refl _) _⟩
theorem rowx_16 (w : World) : Calls Try.prog 10 #[.int .i64 16] w fun e w' => e = .returned (.tuple #[.agg (rowX 16), .bool true]) ∧ Below w.heap.size w w' := by
  have hz : (w.alloc (.cells #[.int .i64 0, .bool false, .bool false, .bool false, .bool false, .bool false, .bool false, .bool false, .bool false, .bool false, .bool false] 41)).heap[w.heap.size]? = some (.cells #[.int .i64 0, .bool false, .bool false, .bool false, .bool false, .bool false, .bool false, .bool false, .bool false, .bool false, .bool false] 41 (0, 0)) := heap_alloc_new w _
  have HZ := Lib.hid hz
  clear hz
  go_enter Try.func10, Try.ntmps10
  go_wp2_with (refine wpList_store_row rfl 41 (.tmp 2) (.tmp 46) rfl w.heap.size #[.int .i64 193, .bool false, .bool false, .bool false, .bool false, .bool false, .bool false, .bool false, .bool false, .bool false, .bool true] rfl rfl _ _ HZ.out info_rowx rfl (one_rowx 193 false false false false false false false false false true) ?_)
  exact bodyPost_ret ((results_cell_tmp_row rfl _ _ w.heap.size _ _ _ _ rfl (setRow_heap _ _ _ #[.int .i64 193, .bool false, .bool false, .bool false, .bool false, .bool false, .bool false, .bool false, .bool false, .bool false, .bool true] _ _ HZ.out) Try.underlying41 rfl info_rowx).trans (by rfl)) rfl ⟨rfl, below_setRow ((Below.refl _ _).alloc (Nat.le_refl _) _) (Nat.le_refl _) _⟩
theorem rowx_17 (w : World) : Calls Try.prog 10 #[.int .i64 17] w fun e w' => e = .returned (.tuple #[.agg (rowX 17), .bool true]) ∧ Below w.heap.size w w' := by
  have hz : (w.alloc (.cells #[.int .i64 0, .bool false, .bool false, .bool false, .bool false, .bool false, .bool false, .bool false, .bool false, .bool false, .bool false] 41)).heap[w.heap.size]? = some (.cells #[.int .i64 0, .bool false, .bool false, .bool false, .bool false, .bool false, .bool false, .bool false, .bool false, .bool false, .bool false] 41 (0, 0)) := heap_alloc_new w _
  have HZ := Lib.hid hz
  clear hz
  go_enter Try.func10, Try.ntmps10
  go_wp2_with (refine wpList_store_row rfl 41 (.tmp 2) (.tmp 49) rfl w.heap.size #[.int .i64 161, .bool false, .bool false, .bool false, .bool false, .bool false, .bool false, .bool false, .bool false, .bool false, .bool false] rfl rfl _ _ HZ.out info_rowx rfl (one_rowx 161 false false false false false false false false false false) ?_)
  exact bodyPost_ret ((results_cell_tmp_row rfl _ _ w.heap.size _ _ _ _ rfl (setRow_heap _ _ _ #[.int .i64 161, .bool false, .bool false, .bool false, .bool false, .bool false, .bool false, .bool false, .bool false, .bool false, .bool false] _ _ HZ.out) Try.underlying41 rfl info_rowx).trans (by rfl)) rfl ⟨rfl, below_setRow ((Below.refl _ _).alloc (Nat.le_refl _) _) (Nat.le_refl _) _⟩
theorem rowx_any (c : Int) (hc : 1 ≤ c ∧ c ≤ 17) (w : World) : Calls Try.prog 10 #[.int .i64 c] w fun e w' => e = .returned (.tuple #[.agg (rowX c), .bool true]) ∧ Below w.heap.size w w' := by
  have : c = 1 ∨ c = 2 ∨ c = 3 ∨ c = 4 ∨ c = 5 ∨ c = 6 ∨ c = 7 ∨ c = 8 ∨ c = 9 ∨ c = 10 ∨ c = 11 ∨ c = 12 ∨ c = 13 ∨ c = 14 ∨ c = 15 ∨ c = 16 ∨ c = 17 := by omega
  rcases this with rfl | rfl | rfl | rfl | rfl | rfl | rfl | rfl | rfl | rfl | rfl | rfl | rfl | rfl | rfl | rfl | rfl
  · exact rowx_1 w
  · exact rowx_2 w
  · exact rowx_3 w
  · exact rowx_4 w
  · exact rowx_5 w
  · exact rowx_6 w
  · exact rowx_7 w
  · exact rowx_8 w
  · exact rowx_9 w
  · exact rowx_10 w
  · exact rowx_11 w
  · exact rowx_12 w
  · exact rowx_13 w
  · exact rowx_14 w
  · exact rowx_15 w
  · exact rowx_16 w
  · exact rowx_17 w
end Go.Proofs.Ytoamgdcjmkkmfaa
namespace Go.Proofs.Ytoamgdcjmkkmfaa
open Go.RowKit
set_option linter.unusedSimpArgs false
set_option linter.unusedVariables false
set_option maxHeartbeats 4000000

def keyB (ki ks : Int) : Bool := inB ki 0 65535 && inB ks 0 255
/-- Can all numbers stand where they are told? -/
def rngE (c ki ks : Int) (fa : Bool) (sz n co sq bl sp cr : Int) : Bool :=
  if c = 1 ∨ c = 10 then keyB ki ks && (if fa then inB n 1 4 else inB sz (-1) 4294967295)
  else if c = 2 ∨ c = 11 then inB n 0 7 else if c = 5 ∨ c = 13 then keyB ki ks && inB sz (-1) 4294967295
  else if c = 6 ∨ c = 12 then keyB ki ks && inB bl 1 127 else if c = 14 then keyB ki ks && inB co 0 4294967295
  else if c = 15 then inB bl 1 127 && inB sq 0 127 else if c = 16 then inB sp 0 7 && inB cr 0 65535
  else if c = 3 ∨ c = 8 then keyB ki ks else true
theorem rng_1 (ki ks : Int) (tg la fa su : Bool) (sz n d0 d1 d2 d3 d4 d5 d6 co sq bl sp cr : Int) (w : World) : Calls Try.prog 25 #[.agg #[.int .i64 1, .int .i64 ki, .int .i64 ks, .bool tg, .bool la, .bool fa, .bool su, .int .i64 sz, .int .i64 n, .int .u8 d0, .int .u8 d1, .int .u8 d2, .int .u8 d3, .int .u8 d4, .int .u8 d5, .int .u8 d6, .int .i64 co, .int .i64 sq, .int .i64 bl, .int .i64 sp, .int .i64 cr], .agg (rowX 1)] w fun e w' => e = .returned (.bool (rngE 1 ki ks fa sz n co sq bl sp cr)) ∧ Below w.heap.size w w' := by
  have e : rowX 1 = #[.int .i64 32, .bool true, .bool false, .bool false, .bool true, .bool false, .bool true, .bool false, .bool false, .bool false, .bool false] := rfl
  rw [e]
  clear e
  cases fa
  all_goals
    go_enter Try.func25, Try.ntmps25
    go_wp2_with (go_at_call 41; refine (in_any _ _ _ _).mono ?_; rintro e w1 ⟨rfl, rfl⟩)
    all_goals (go_ret; refine ⟨?_, ((Below.refl _ _).alloc (Nat.le_refl _) _).alloc (by simp) _⟩; apply ret_bool; unfold rngE keyB; simp; try simp_all)
theorem rng_2 (ki ks : Int) (tg la fa su : Bool) (sz n d0 d1 d2 d3 d4 d5 d6 co sq bl sp cr : Int) (w : World) : Calls Try.prog 25 #[.agg #[.int .i64 2, .int .i64 ki, .int .i64 ks, .bool tg, .bool la, .bool fa, .bool su, .int .i64 sz, .int .i64 n, .int .u8 d0, .int .u8 d1, .int .u8 d2, .int .u8 d3, .int .u8 d4, .int .u8 d5, .int .u8 d6, .int .i64 co, .int .i64 sq, .int .i64 bl, .int .i64 sp, .int .i64 cr], .agg (rowX 2)] w fun e w' => e = .returned (.bool (rngE 2 ki ks fa sz n co sq bl sp cr)) ∧ Below w.heap.size w w' := by
  have e : rowX 2 = #[.int .i64 0, .bool false, .bool true, .bool true, .bool false, .bool false, .bool false, .bool true, .bool false, .bool false, .bool false] := rfl
  rw [e]
  clear e
  all_goals
    go_enter Try.func25, Try.ntmps25
    go_wp2_with (go_at_call 41; refine (in_any _ _ _ _).mono ?_; rintro e w1 ⟨rfl, rfl⟩)
    all_goals (go_ret; refine ⟨?_, ((Below.refl _ _).alloc (Nat.le_refl _) _).alloc (by simp) _⟩; apply ret_bool; unfold rngE keyB; simp; try simp_all)
theorem rng_3 (ki ks : Int) (tg la fa su : Bool) (sz n d0 d1 d2 d3 d4 d5 d6 co sq bl sp cr : Int) (w : World) : Calls Try.prog 25 #[.agg #[.int .i64 3, .int .i64 ki, .int .i64 ks, .bool tg, .bool la, .bool fa, .bool su, .int .i64 sz, .int .i64 n, .int .u8 d0, .int .u8 d1, .int .u8 d2, .int .u8 d3, .int .u8 d4, .int .u8 d5, .int .u8 d6, .int .i64 co, .int .i64 sq, .int .i64 bl, .int .i64 sp, .int .i64 cr], .agg (rowX 3)] w fun e w' => e = .returned (.bool (rngE 3 ki ks fa sz n co sq bl sp cr)) ∧ Below w.heap.size w w' := by
  have e : rowX 3 = #[.int .i64 64, .bool true, .bool false, .bool false, .bool false, .bool false, .bool false, .bool false, .bool false, .bool false, .bool false] := rfl
  rw [e]
  clear e
  all_goals
    go_enter Try.func25, Try.ntmps25
    go_wp2_with (go_at_call 41; refine (in_any _ _ _ _).mono ?_; rintro e w1 ⟨rfl, rfl⟩)
    all_goals (go_ret; refine ⟨?_, ((Below.refl _ _).alloc (Nat.le_refl _) _).alloc (by simp) _⟩; apply ret_bool; unfold rngE keyB; simp; try simp_all)
theorem rng_4 (ki ks : Int) (tg la fa su : Bool) (sz n d0 d1 d2 d3 d4 d5 d6 co sq bl sp cr : Int) (w : World) : Calls Try.prog 25 #[.agg #[.int .i64 4, .int .i64 ki, .int .i64 ks, .bool tg, .bool la, .bool fa, .bool su, .int .i64 sz, .int .i64 n, .int .u8 d0, .int .u8 d1, .int .u8 d2, .int .u8 d3, .int .u8 d4, .int .u8 d5, .int .u8 d6, .int .i64 co, .int .i64 sq, .int .i64 bl, .int .i64 sp, .int .i64 cr], .agg (rowX 4)] w fun e w' => e = .returned (.bool (rngE 4 ki ks fa sz n co sq bl sp cr)) ∧ Below w.heap.size w w' := by
  have e : rowX 4 = #[.int .i64 96, .bool false, .bool true, .bool false, .bool false, .bool false, .bool false, .bool false, .bool false, .bool false, .bool false] := rfl
  rw [e]
  clear e
  all_goals
    go_enter Try.func25, Try.ntmps25
    go_wp2_with (go_at_call 41; refine (in_any _ _ _ _).mono ?_; rintro e w1 ⟨rfl, rfl⟩)
    all_goals (go_ret; refine ⟨?_, ((Below.refl _ _).alloc (Nat.le_refl _) _).alloc (by simp) _⟩; apply ret_bool; unfold rngE keyB; simp; try simp_all)
theorem rng_5 (ki ks : Int) (tg la fa su : Bool) (sz n d0 d1 d2 d3 d4 d5 d6 co sq bl sp cr : Int) (w : World) : Calls Try.prog 25 #[.agg #[.int .i64 5, .int .i64 ki, .int .i64 ks, .bool tg, .bool la, .bool fa, .bool su, .int .i64 sz, .int .i64 n, .int .u8 d0, .int .u8 d1, .int .u8 d2, .int .u8 d3, .int .u8 d4, .int .u8 d5, .int .u8 d6, .int .i64 co, .int .i64 sq, .int .i64 bl, .int .i64 sp, .int .i64 cr], .agg (rowX 5)] w fun e w' => e = .returned (.bool (rngE 5 ki ks fa sz n co sq bl sp cr)) ∧ Below w.heap.size w w' := by
  have e : rowX 5 = #[.int .i64 192, .bool true, .bool false, .bool false, .bool false, .bool true, .bool true, .bool false, .bool false, .bool false, .bool false] := rfl
  rw [e]
  clear e
  all_goals
    go_enter Try.func25, Try.ntmps25
    go_wp2_with (go_at_call 41; refine (in_any _ _ _ _).mono ?_; rintro e w1 ⟨rfl, rfl⟩)
    all_goals (go_ret; refine ⟨?_, ((Below.refl _ _).alloc (Nat.le_refl _) _).alloc (by simp) _⟩; apply ret_bool; unfold rngE keyB; simp; try simp_all)
theorem rng_6 (ki ks : Int) (tg la fa su : Bool) (sz n d0 d1 d2 d3 d4 d5 d6 co sq bl sp cr : Int) (w : World) : Calls Try.prog 25 #[.agg #[.int .i64 6, .int .i64 ki, .int .i64 ks, .bool tg, .bool la, .bool fa, .bool su, .int .i64 sz, .int .i64 n, .int .u8 d0, .int .u8 d1, .int .u8 d2, .int .u8 d3, .int .u8 d4, .int .u8 d5, .int .u8 d6, .int .i64 co, .int .i64 sq, .int .i64 bl, .int .i64 sp, .int .i64 cr], .agg (rowX 6)] w fun e w' => e = .returned (.bool (rngE 6 ki ks fa sz n co sq bl sp cr)) ∧ Below w.heap.size w w' := by
  have e : rowX 6 = #[.int .i64 160, .bool true, .bool false, .bool false, .bool false, .bool true, .bool false, .bool false, .bool false, .bool true, .bool false] := rfl
  rw [e]
  clear e
  all_goals
    go_enter Try.func25, Try.ntmps25
    go_wp2_with (go_at_call 41; refine (in_any _ _ _ _).mono ?_; rintro e w1 ⟨rfl, rfl⟩)
    all_goals (go_ret; refine ⟨?_, ((Below.refl _ _).alloc (Nat.le_refl _) _).alloc (by simp) _⟩; apply ret_bool; unfold rngE keyB; simp; try simp_all)
theorem rng_7 (ki ks : Int) (tg la fa su : Bool) (sz n d0 d1 d2 d3 d4 d5 d6 co sq bl sp cr : Int) (w : World) : Calls Try.prog 25 #[.agg #[.int .i64 7, .int .i64 ki, .int .i64 ks, .bool tg, .bool la, .bool fa, .bool su, .int .i64 sz, .int .i64 n, .int .u8 d0, .int .u8 d1, .int .u8 d2, .int .u8 d3, .int .u8 d4, .int .u8 d5, .int .u8 d6, .int .i64 co, .int .i64 sq, .int .i64 bl, .int .i64 sp, .int .i64 cr], .agg (rowX 7)] w fun e w' => e = .returned (.bool (rngE 7 ki ks fa sz n co sq bl sp cr)) ∧ Below w.heap.size w w' := by
  have e : rowX 7 = #[.int .i64 163, .bool false, .bool false, .bool false, .bool false, .bool false, .bool false, .bool false, .bool false, .bool false, .bool false] := rfl
  rw [e]
  clear e
  all_goals
    go_enter Try.func25, Try.ntmps25
    go_wp2_with (go_at_call 41; refine (in_any _ _ _ _).mono ?_; rintro e w1 ⟨rfl, rfl⟩)
    all_goals (go_ret; refine ⟨?_, ((Below.refl _ _).alloc (Nat.le_refl _) _).alloc (by simp) _⟩; apply ret_bool; unfold rngE keyB; simp; try simp_all)
theorem rng_8 (ki ks : Int) (tg la fa su : Bool) (sz n d0 d1 d2 d3 d4 d5 d6 co sq bl sp cr : Int) (w : World) : Calls Try.prog 25 #[.agg #[.int .i64 8, .int .i64 ki, .int .i64 ks, .bool tg, .bool la, .bool fa, .bool su, .int .i64 sz, .int .i64 n, .int .u8 d0, .int .u8 d1, .int .u8 d2, .int .u8 d3, .int .u8 d4, .int .u8 d5, .int .u8 d6, .int .i64 co, .int .i64 sq, .int .i64 bl, .int .i64 sp, .int .i64 cr], .agg (rowX 8)] w fun e w' => e = .returned (.bool (rngE 8 ki ks fa sz n co sq bl sp cr)) ∧ Below w.heap.size w w' := by
  have e : rowX 8 = #[.int .i64 96, .bool true, .bool false, .bool false, .bool false, .bool false, .bool false, .bool false, .bool false, .bool false, .bool false] := rfl
  rw [e]
  clear e
  all_goals
    go_enter Try.func25, Try.ntmps25
    go_wp2_with (go_at_call 41; refine (in_any _ _ _ _).mono ?_; rintro e w1 ⟨rfl, rfl⟩)
    all_goals (go_ret; refine ⟨?_, ((Below.refl _ _).alloc (Nat.le_refl _) _).alloc (by simp) _⟩; apply ret_bool; unfold rngE keyB; simp; try simp_all)
theorem rng_9 (ki ks : Int) (tg la fa su : Bool) (sz n d0 d1 d2 d3 d4 d5 d6 co sq bl sp cr : Int) (w : World) : Calls Try.prog 25 #[.agg #[.int .i64 9, .int .i64 ki, .int .i64 ks, .bool tg, .bool la, .bool fa, .bool su, .int .i64 sz, .int .i64 n, .int .u8 d0, .int .u8 d1, .int .u8 d2, .int .u8 d3, .int .u8 d4, .int .u8 d5, .int .u8 d6, .int .i64 co, .int .i64 sq, .int .i64 bl, .int .i64 sp, .int .i64 cr], .agg (rowX 9)] w fun e w' => e = .returned (.bool (rngE 9 ki ks fa sz n co sq bl sp cr)) ∧ Below w.heap.size w w' := by
  have e : rowX 9 = #[.int .i64 32, .bool false, .bool true, .bool false, .bool false, .bool false, .bool false, .bool false, .bool false, .bool false, .bool false] := rfl
  rw [e]
  clear e
  all_goals
    go_enter Try.func25, Try.ntmps25
    go_wp2_with (go_at_call 41; refine (in_any _ _ _ _).mono ?_; rintro e w1 ⟨rfl, rfl⟩)
    all_goals (go_ret; refine ⟨?_, ((Below.refl _ _).alloc (Nat.le_refl _) _).alloc (by simp) _⟩; apply ret_bool; unfold rngE keyB; simp; try simp_all)
end Go.Proofs.Ytoamgdcjmkkmfaa
namespace Go.Proofs.Ytoamgdcjmkkmfaa
open Go.RowKit
set_option linter.unusedSimpArgs false
set_option linter.unusedVariables false
set_option maxHeartbeats 4000000
theorem rng_10 (ki ks : Int) (tg la fa su : Bool) (sz n d0 d1 d2 d3 d4 d5 d6 co sq bl sp cr : Int) (w : World) : Calls Try.prog 25 #[.agg #[.int .i64 10, .int .i64 ki, .int .i64 ks, .bool tg, .bool la, .bool fa, .bool su, .int .i64 sz, .int .i64 n, .int .u8 d0, .int .u8 d1, .int .u8 d2, .int .u8 d3, .int .u8 d4, .int .u8 d5, .int .u8 d6, .int .i64 co, .int .i64 sq, .int .i64 bl, .int .i64 sp, .int .i64 cr], .agg (rowX 10)] w fun e w' => e = .returned (.bool (rngE 10 ki ks fa sz n co sq bl sp cr)) ∧ Below w.heap.size w w' := by
  have e : rowX 10 = #[.int .i64 64, .bool true, .bool false, .bool false, .bool true, .bool false, .bool true, .bool false, .bool false, .bool false, .bool false] := rfl
  rw [e]
  clear e
  cases fa
  all_goals
    go_enter Try.func25, Try.ntmps25
    go_wp2_with (go_at_call 41; refine (in_any _ _ _ _).mono ?_; rintro e w1 ⟨rfl, rfl⟩)
    all_goals (go_ret; refine ⟨?_, ((Below.refl _ _).alloc (Nat.le_refl _) _).alloc (by simp) _⟩; apply ret_bool; unfold rngE keyB; simp; try simp_all)
theorem rng_11 (ki ks : Int) (tg la fa su : Bool) (sz n d0 d1 d2 d3 d4 d5 d6 co sq bl sp cr : Int) (w : World) : Calls Try.prog 25 #[.agg #[.int .i64 11, .int .i64 ki, .int .i64 ks, .bool tg, .bool la, .bool fa, .bool su, .int .i64 sz, .int .i64 n, .int .u8 d0, .int .u8 d1, .int .u8 d2, .int .u8 d3, .int .u8 d4, .int .u8 d5, .int .u8 d6, .int .i64 co, .int .i64 sq, .int .i64 bl, .int .i64 sp, .int .i64 cr], .agg (rowX 11)] w fun e w' => e = .returned (.bool (rngE 11 ki ks fa sz n co sq bl sp cr)) ∧ Below w.heap.size w w' := by
  have e : rowX 11 = #[.int .i64 0, .bool false, .bool true, .bool true, .bool false, .bool false, .bool false, .bool true, .bool false, .bool false, .bool false] := rfl
  rw [e]
  clear e
  all_goals
    go_enter Try.func25, Try.ntmps25
    go_wp2_with (go_at_call 41; refine (in_any _ _ _ _).mono ?_; rintro e w1 ⟨rfl, rfl⟩)
    all_goals (go_ret; refine ⟨?_, ((Below.refl _ _).alloc (Nat.le_refl _) _).alloc (by simp) _⟩; apply ret_bool; unfold rngE keyB; simp; try simp_all)
theorem rng_12 (ki ks : Int) (tg la fa su : Bool) (sz n d0 d1 d2 d3 d4 d5 d6 co sq bl sp cr : Int) (w : World) : Calls Try.prog 25 #[.agg #[.int .i64 12, .int .i64 ki, .int .i64 ks, .bool tg, .bool la, .bool fa, .bool su, .int .i64 sz, .int .i64 n, .int .u8 d0, .int .u8 d1, .int .u8 d2, .int .u8 d3, .int .u8 d4, .int .u8 d5, .int .u8 d6, .int .i64 co, .int .i64 sq, .int .i64 bl, .int .i64 sp, .int .i64 cr], .agg (rowX 12)] w fun e w' => e = .returned (.bool (rngE 12 ki ks fa sz n co sq bl sp cr)) ∧ Below w.heap.size w w' := by
  have e : rowX 12 = #[.int .i64 160, .bool true, .bool false, .bool false, .bool false, .bool true, .bool false, .bool false, .bool false, .bool true, .bool false] := rfl
  rw [e]
  clear e
  all_goals
    go_enter Try.func25, Try.ntmps25
    go_wp2_with (go_at_call 41; refine (in_any _ _ _ _).mono ?_; rintro e w1 ⟨rfl, rfl⟩)
    all_goals (go_ret; refine ⟨?_, ((Below.refl _ _).alloc (Nat.le_refl _) _).alloc (by simp) _⟩; apply ret_bool; unfold rngE keyB; simp; try simp_all)
theorem rng_13 (ki ks : Int) (tg la fa su : Bool) (sz n d0 d1 d2 d3 d4 d5 d6 co sq bl sp cr : Int) (w : World) : Calls Try.prog 25 #[.agg #[.int .i64 13, .int .i64 ki, .int .i64 ks, .bool tg, .bool la, .bool fa, .bool su, .int .i64 sz, .int .i64 n, .int .u8 d0, .int .u8 d1, .int .u8 d2, .int .u8 d3, .int .u8 d4, .int .u8 d5, .int .u8 d6, .int .i64 co, .int .i64 sq, .int .i64 bl, .int .i64 sp, .int .i64 cr], .agg (rowX 13)] w fun e w' => e = .returned (.bool (rngE 13 ki ks fa sz n co sq bl sp cr)) ∧ Below w.heap.size w w' := by
  have e : rowX 13 = #[.int .i64 192, .bool true, .bool false, .bool false, .bool false, .bool true, .bool true, .bool false, .bool false, .bool false, .bool false] := rfl
  rw [e]
  clear e
  all_goals
    go_enter Try.func25, Try.ntmps25
    go_wp2_with (go_at_call 41; refine (in_any _ _ _ _).mono ?_; rintro e w1 ⟨rfl, rfl⟩)
    all_goals (go_ret; refine ⟨?_, ((Below.refl _ _).alloc (Nat.le_refl _) _).alloc (by simp) _⟩; apply ret_bool; unfold rngE keyB; simp; try simp_all)
theorem rng_14 (ki ks : Int) (tg la fa su : Bool) (sz n d0 d1 d2 d3 d4 d5 d6 co sq bl sp cr : Int) (w : World) : Calls Try.prog 25 #[.agg #[.int .i64 14, .int .i64 ki, .int .i64 ks, .bool tg, .bool la, .bool fa, .bool su, .int .i64 sz, .int .i64 n, .int .u8 d0, .int .u8 d1, .int .u8 d2, .int .u8 d3, .int .u8 d4, .int .u8 d5, .int .u8 d6, .int .i64 co, .int .i64 sq, .int .i64 bl, .int .i64 sp, .int .i64 cr], .agg (rowX 14)] w fun e w' => e = .returned (.bool (rngE 14 ki ks fa sz n co sq bl sp cr)) ∧ Below w.heap.size w w' := by
  have e : rowX 14 = #[.int .i64 128, .bool true, .bool false, .bool false, .bool false, .bool false, .bool false, .bool false, .bool true, .bool false, .bool false] := rfl
  rw [e]
  clear e
  all_goals
    go_enter Try.func25, Try.ntmps25
    go_wp2_with (go_at_call 41; refine (in_any _ _ _ _).mono ?_; rintro e w1 ⟨rfl, rfl⟩)
    all_goals (go_ret; refine ⟨?_, ((Below.refl _ _).alloc (Nat.le_refl _) _).alloc (by simp) _⟩; apply ret_bool; unfold rngE keyB; simp; try simp_all)
theorem rng_15 (ki ks : Int) (tg la fa su : Bool) (sz n d0 d1 d2 d3 d4 d5 d6 co sq bl sp cr : Int) (w : World) : Calls Try.prog 25 #[.agg #[.int .i64 15, .int .i64 ki, .int .i64 ks, .bool tg, .bool la, .bool fa, .bool su, .int .i64 sz, .int .i64 n, .int .u8 d0, .int .u8 d1, .int .u8 d2, .int .u8 d3, .int .u8 d4, .int .u8 d5, .int .u8 d6, .int .i64 co, .int .i64 sq, .int .i64 bl, .int .i64 sp, .int .i64 cr], .agg (rowX 15)] w fun e w' => e = .returned (.bool (rngE 15 ki ks fa sz n co sq bl sp cr)) ∧ Below w.heap.size w w' := by
  have e : rowX 15 = #[.int .i64 162, .bool false, .bool false, .bool false, .bool false, .bool false, .bool false, .bool false, .bool false, .bool true, .bool false] := rfl
  rw [e]
  clear e
  all_goals
    go_enter Try.func25, Try.ntmps25
    go_wp2_with (go_at_call 41; refine (in_any _ _ _ _).mono ?_; rintro e w1 ⟨rfl, rfl⟩)
    all_goals (go_ret; refine ⟨?_, ((Below.refl _ _).alloc (Nat.le_refl _) _).alloc (by simp) _⟩; apply ret_bool; unfold rngE keyB; simp; try simp_all)
theorem rng_16 (ki ks : Int) (tg la fa su : Bool) (sz n d0 d1 d2 d3 d4 d5 d6 co sq bl sp cr : Int) (w : World) : Calls Try.prog 25 #[.agg #[.int .i64 16, .int .i64 ki, .int .i64 ks, .bool tg, .bool la, .bool fa, .bool su, .int .i64 sz, .int .i64 n, .int .u8 d0, .int .u8 d1, .int .u8 d2, .int .u8 d3, .int .u8 d4, .int .u8 d5, .int .u8 d6, .int .i64 co, .int .i64 sq, .int .i64 bl, .int .i64 sp, .int .i64 cr], .agg (rowX 16)] w fun e w' => e = .returned (.bool (rngE 16 ki ks fa sz n co sq bl sp cr)) ∧ Below w.heap.size w w' := by
  have e : rowX 16 = #[.int .i64 193, .bool false, .bool false, .bool false, .bool false, .bool false, .bool false, .bool false, .bool false, .bool false, .bool true] := rfl
  rw [e]
  clear e
  all_goals
    go_enter Try.func25, Try.ntmps25
    go_wp2_with (go_at_call 41; refine (in_any _ _ _ _).mono ?_; rintro e w1 ⟨rfl, rfl⟩)
    all_goals (go_ret; refine ⟨?_, ((Below.refl _ _).alloc (Nat.le_refl _) _).alloc (by simp) _⟩; apply ret_bool; unfold rngE keyB; simp; try simp_all)
theorem rng_17 (ki ks : Int) (tg la fa su : Bool) (sz n d0 d1 d2 d3 d4 d5 d6 co sq bl sp cr : Int) (w : World) : Calls Try.prog 25 #[.agg #[.int .i64 17, .int .i64 ki, .int .i64 ks, .bool tg, .bool la, .bool fa, .bool su, .int .i64 sz, .int .i64 n, .int .u8 d0, .int .u8 d1, .int .u8 d2, .int .u8 d3, .int .u8 d4, .int .u8 d5, .int .u8 d6, .int .i64 co, .int .i64 sq, .int .i64 bl, .int .i64 sp, .int .i64 cr], .agg (rowX 17)] w fun e w' => e = .returned (.bool (rngE 17 ki ks fa sz n co sq bl sp cr)) ∧ Below w.heap.size w w' := by
  have e : rowX 17 = #[.int .i64 161, .bool false, .bool false, .bool false, .bool false, .bool false, .bool false, .bool false, .bool false, .bool false, .bool false] := rfl
  rw [e]
  clear e
  all_goals
    go_enter Try.func25, Try.ntmps25
    go_wp2_with (go_at_call 41; refine (in_any _ _ _ _).mono ?_; rintro e w1 ⟨rfl, rfl⟩)
    all_goals (go_ret; refine ⟨?_, ((Below.refl _ _).alloc (Nat.le_refl _) _).alloc (by simp) _⟩; apply ret_bool; unfold rngE keyB; simp; try simp_all)
theorem rng_any (c ki ks : Int) (tg la fa su : Bool) (sz n d0 d1 d2 d3 d4 d5 d6 co sq bl sp cr : Int) (hc : 1 ≤ c ∧ c ≤ 17) (w : World) : Calls Try.prog 25 #[.agg #[.int .i64 c, .int .i64 ki, .int .i64 ks, .bool tg, .bool la, .bool fa, .bool su, .int .i64 sz, .int .i64 n, .int .u8 d0, .int .u8 d1, .int .u8 d2, .int .u8 d3, .int .u8 d4, .int .u8 d5, .int .u8 d6, .int .i64 co, .int .i64 sq, .int .i64 bl, .int .i64 sp, .int .i64 cr], .agg (rowX c)] w fun e w' => e = .returned (.bool (rngE c ki ks fa sz n co sq bl sp cr)) ∧ Below w.heap.size w w' := by
  have : c = 1 ∨ c = 2 ∨ c = 3 ∨ c = 4 ∨ c = 5 ∨ c = 6 ∨ c = 7 ∨ c = 8 ∨ c = 9 ∨ c = 10 ∨ c = 11 ∨ c = 12 ∨ c = 13 ∨ c = 14 ∨ c = 15 ∨ c = 16 ∨ c = 17 := by omega
  rcases this with rfl | rfl | rfl | rfl | rfl | rfl | rfl | rfl | rfl | rfl | rfl | rfl | rfl | rfl | rfl | rfl | rfl
  · exact rng_1 ki ks tg la fa su sz n d0 d1 d2 d3 d4 d5 d6 co sq bl sp cr w
  · exact rng_2 ki ks tg la fa su sz n d0 d1 d2 d3 d4 d5 d6 co sq bl sp cr w
  · exact rng_3 ki ks tg la fa su sz n d0 d1 d2 d3 d4 d5 d6 co sq bl sp cr w
  · exact rng_4 ki ks tg la fa su sz n d0 d1 d2 d3 d4 d5 d6 co sq bl sp cr w
  · exact rng_5 ki ks tg la fa su sz n d0 d1 d2 d3 d4 d5 d6 co sq bl sp cr w
  · exact rng_6 ki ks tg la fa su sz n d0 d1 d2 d3 d4 d5 d6 co sq bl sp cr w
  · exact rng_7 ki ks tg la fa su sz n d0 d1 d2 d3 d4 d5 d6 co sq bl sp cr w
  · exact rng_8 ki ks tg la fa su sz n d0 d1 d2 d3 d4 d5 d6 co sq bl sp cr w
  · exact rng_9 ki ks tg la fa su sz n d0 d1 d2 d3 d4 d5 d6 co sq bl sp cr w
  · exact rng_10 ki ks tg la fa su sz n d0 d1 d2 d3 d4 d5 d6 co sq bl sp cr w
  · exact rng_11 ki ks tg la fa su sz n d0 d1 d2 d3 d4 d5 d6 co sq bl sp cr w
  · exact rng_12 ki ks tg la fa su sz n d0 d1 d2 d3 d4 d5 d6 co sq bl sp cr w
  · exact rng_13 ki ks tg la fa su sz n d0 d1 d2 d3 d4 d5 d6 co sq bl sp cr w
  · exact rng_14 ki ks tg la fa su sz n d0 d1 d2 d3 d4 d5 d6 co sq bl sp cr w
  · exact rng_15 ki ks tg la fa su sz n d0 d1 d2 d3 d4 d5 d6 co sq bl sp cr w
  · exact rng_16 ki ks tg la fa su sz n d0 d1 d2 d3 d4 d5 d6 co sq bl sp cr w
  · exact rng_17 ki ks tg la fa su sz n d0 d1 d2 d3 d4 d5 d6 co sq bl sp cr w
end Go.Proofs.Ytoamgdcjmkkmfaa
