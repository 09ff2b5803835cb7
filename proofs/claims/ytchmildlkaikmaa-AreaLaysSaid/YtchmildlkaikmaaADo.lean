/- What a nil dictionary answers. -/
import Derived.Test.YtchmildlkaikmaaADn
namespace Go.Proofs.Ytchmildlkaikmaa
open Go.RowKit Go.Shelf
set_option linter.unusedSimpArgs false
set_option linter.unusedVariables false
theorem len_nil (w : World) : Calls Try.prog 33 #[.pointer none] w fun e w' => e = .returned (.int .i64 0) ∧ w = w' := by
  go_enter Try.func33, Try.ntmps33
  go_wp2_with fail
  go_ret
  exact ⟨rfl, rfl⟩
theorem add_nil (w : World) (i j k a lo hi : Int) (A : Option Addr) (n c : Nat) : Calls Try.prog 8 #[.pointer none, .agg #[.int .i64 i, .int .i64 j], .agg #[.int .i64 k, .int .i64 a, .int .i64 lo, .int .i64 hi], .slice A n c] w fun e w' => e = .returned (.int .i64 1) ∧ Below w.heap.size w w' := by
  have hb0 : Below w.heap.size w ((w.alloc (.cells #[.int .i64 i, .int .i64 j] 23)).alloc (.cells #[.int .i64 k, .int .i64 a, .int .i64 lo, .int .i64 hi] 27)) := ((Below.refl _ _).alloc (Nat.le_refl _) _).alloc (by simp) _
  have HB0 := Lib.hid hb0
  clear hb0
  go_enter Try.func8, Try.ntmps8
  go_wp2_with fail
  go_ret
  exact ⟨rfl, HB0.out⟩
theorem get_nil (w : World) (i j : Int) :
    Calls Try.prog 32 #[.pointer none, .agg #[.int .i64 i, .int .i64 j]] w fun e w' => e = .returned (.tuple #[entV e0, .bool false]) ∧ Below w.heap.size w w' := by
  have hb0 : Below w.heap.size w ((w.alloc (.cells #[.int .i64 i, .int .i64 j] 23)).alloc (.cells #[.int .i64 0, .int .i64 0, .int .i64 0, .int .i64 0, .string ⟨#[]⟩] 70)) := ((Below.refl _ _).alloc (Nat.le_refl _) _).alloc (by simp) _
  have hz0 : EntAt ((w.alloc (.cells #[.int .i64 i, .int .i64 j] 23)).alloc (.cells #[.int .i64 0, .int .i64 0, .int .i64 0, .int .i64 0, .string ⟨#[]⟩] 70)) (w.heap.size + 1) 0 0 0 0 ⟨#[]⟩ := heap_alloc2_new w _ _
  have HB0 := Lib.hid hb0
  have HZ0 := Lib.hid hz0
  clear hb0 hz0
  dsimp only [entV, e0]
  rw [str0]
  go_enter Try.func32, Try.ntmps32
  go_wp2_with (refine wpList_store_row rfl _ (.tmp 4) (.tmp 8) rfl (w.heap.size + 1) _ rfl rfl _ _ HZ0.out info_ent rfl (one_ent _ _ _ _ _) ?_)
  exact bodyPost_ret (results_cell_tmp_row rfl _ _ (w.heap.size + 1) _ _ _ _ rfl (setRow_heap _ _ _ _ _ (0, 0) HZ0.out) Try.underlying70 rfl info_ent) rfl ⟨rfl, below_setRow HB0.out (by omega) _⟩
theorem own_nilD (w : World) (i j : Int) :
    Calls Try.prog 94 #[.pointer none, .agg #[.int .i64 i, .int .i64 j]] w fun e w' => e = .returned (.tuple #[entV e0, .int .i64 1]) ∧ Below w.heap.size w w' := by
  have hb0 : Below w.heap.size w ((w.alloc (.cells #[.int .i64 i, .int .i64 j] 23)).alloc (.cells #[.int .i64 0, .int .i64 0, .int .i64 0, .int .i64 0, .string ⟨#[]⟩] 70)) := ((Below.refl _ _).alloc (Nat.le_refl _) _).alloc (by simp) _
  have hz0 : EntAt ((w.alloc (.cells #[.int .i64 i, .int .i64 j] 23)).alloc (.cells #[.int .i64 0, .int .i64 0, .int .i64 0, .int .i64 0, .string ⟨#[]⟩] 70)) (w.heap.size + 1) 0 0 0 0 ⟨#[]⟩ := heap_alloc2_new w _ _
  have HB0 := Lib.hid hb0
  have HZ0 := Lib.hid hz0
  clear hb0 hz0
  dsimp only [entV, e0]
  rw [str0]
  go_enter Try.func94, Try.ntmps94
  go_wp2_with (refine wpList_store_row rfl _ (.tmp 4) (.tmp 10) rfl (w.heap.size + 1) _ rfl rfl _ _ HZ0.out info_ent rfl (one_ent _ _ _ _ _) ?_)
  exact bodyPost_ret (results_cell_tmp_row rfl _ _ (w.heap.size + 1) _ _ _ _ rfl (setRow_heap _ _ _ _ _ (0, 0) HZ0.out) Try.underlying70 rfl info_ent) rfl ⟨rfl, below_setRow HB0.out (by omega) _⟩
theorem set_nilD (w : World) (i j n : Int) :
    Calls Try.prog 75 #[.pointer none, .agg #[.int .i64 i, .int .i64 j], .int .i64 n] w fun e w' => e = .returned (.int .i64 1) ∧ Below w.heap.size w w' := by
  have hb0 : Below w.heap.size w (w.alloc (.cells #[.int .i64 i, .int .i64 j] 23)) := (Below.refl _ _).alloc (Nat.le_refl _) _
  have hk0 : Key2 (w.alloc (.cells #[.int .i64 i, .int .i64 j] 23)) w.heap.size i j := heap_alloc_new w _
  have ho := own_nilD (w.alloc (.cells #[.int .i64 i, .int .i64 j] 23)) i j
  dsimp only [entV, e0] at ho
  rw [str0] at ho
  have HO := Lib.hid ho
  have HB0 := Lib.hid hb0
  obtain ⟨c0, c1⟩ := hk0.cells
  clear hb0 hk0 ho
  go_enter Try.func75, Try.ntmps75
  go_wp2_with fail
  refine HO.out.mono ?_
  rintro e w1 ⟨rfl, hb1⟩
  have HB1 := Lib.hid (kF (kA hb1 (.cells #[.int .i64 0, .int .i64 0, .int .i64 0, .int .i64 0, .string ⟨#[]⟩] 70)) HB0.out)
  clear hb1 c0 c1
  go_wp2_with fail
  go_ret
  exact ⟨rfl, HB1.out⟩
def encK (x : Int × Int) : Array Value := #[.agg #[.int .i64 x.1, .int .i64 x.2]]
def FindNil (w : World) (e : Ending) (w' : World) : Prop := e = .returned (.tuple #[entV e0, .int .i64 100794368]) ∧ Below w.heap.size w w'
end Go.Proofs.Ytchmildlkaikmaa