/- Numbers and their slots: the program's way and the document's. -/
import Derived.Laws.Rows
import Derived.Test.YtkgopaelfmppiaaArA
import Derived.Test.YtkgopaelfmppiaaADh
namespace Go.Proofs.Ytkgopaelfmppiaa
open Go.RowKit
set_option linter.unusedSimpArgs false
set_option linter.unusedVariables false
theorem info_slot : (Try.prog.info? 46).map (·.size) = some 3 := by kernel_rfl
theorem one_slot (a b c : Int) : (#[.int .i64 a, .int .i64 b, .int .i64 c] : Array Value).all (·.oneCell') = true := by simp [Value.oneCell']
theorem and_255 (x : Int) (h0 : 0 ≤ x) (h1 : x < 4294967296) : bits .and .i64 x 255 = x % 256 := bits_mask .i64 40 (by decide) (fun n h0 h1 => IntWalk.i64_in n (by omega)) 8 (by decide) x h0 (by omega)
def nOk (n : Int) : Bool := decide (0 ≤ n ∧ n ≤ 4294967295)
def SlotP (W : World) (i j b er : Int) (e : Ending) (w' : World) : Prop := e = .returned (.tuple #[.agg #[.int .i64 i, .int .i64 j, .int .i64 b], .int .i64 er]) ∧ Below W.heap.size W w'
set_option maxRecDepth 100000 in
theorem slot_no1 (n : Int) (w : World) (h : n < 0) : Calls Try.prog 16 #[.int .i64 n] w (SlotP w 0 0 0 2) := by
  have hb : Below w.heap.size w (w.alloc (.cells #[.int .i64 0, .int .i64 0, .int .i64 0] 46)) := (Below.refl _ _).alloc (Nat.le_refl _) _
  have hk : SlotAt (w.alloc (.cells #[.int .i64 0, .int .i64 0, .int .i64 0] 46)) w.heap.size 0 0 0 := heap_alloc_new w _
  have HB := Lib.hid hb
  have HK := Lib.hid hk
  clear hb hk
  go_enter Try.func16, Try.ntmps16
  go_wp2_with (refine wpList_store_row rfl _ (.tmp 2) (.tmp 11) rfl w.heap.size _ rfl rfl _ _ HK.out info_slot rfl (one_slot _ _ _) ?_)
  exact bodyPost_ret (results_cell_tmp_row rfl _ _ w.heap.size _ _ _ _ rfl (setRow_heap _ _ _ _ _ (0, 0) HK.out) Try.underlying46 rfl info_slot) rfl ⟨rfl, below_setRow HB.out (Nat.le_refl _) _⟩
set_option maxRecDepth 100000 in
theorem slot_no2 (n : Int) (w : World) (h0 : ¬ n < 0) (h : 4294967295 < n) : Calls Try.prog 16 #[.int .i64 n] w (SlotP w 0 0 0 2) := by
  have hb : Below w.heap.size w (w.alloc (.cells #[.int .i64 0, .int .i64 0, .int .i64 0] 46)) := (Below.refl _ _).alloc (Nat.le_refl _) _
  have hk : SlotAt (w.alloc (.cells #[.int .i64 0, .int .i64 0, .int .i64 0] 46)) w.heap.size 0 0 0 := heap_alloc_new w _
  have HB := Lib.hid hb
  have HK := Lib.hid hk
  clear hb hk
  go_enter Try.func16, Try.ntmps16
  go_wp2_with (refine wpList_store_row rfl _ (.tmp 2) (.tmp 11) rfl w.heap.size _ rfl rfl _ _ HK.out info_slot rfl (one_slot _ _ _) ?_)
  exact bodyPost_ret (results_cell_tmp_row rfl _ _ w.heap.size _ _ _ _ rfl (setRow_heap _ _ _ _ _ (0, 0) HK.out) Try.underlying46 rfl info_slot) rfl ⟨rfl, below_setRow HB.out (Nat.le_refl _) _⟩
set_option maxRecDepth 100000 in
theorem slot_yes (n : Int) (w : World) (h0 : ¬ n < 0) (h : ¬ 4294967295 < n) : Calls Try.prog 16 #[.int .i64 n] w (SlotP w (n / 65536) (n / 256 % 256) (n % 256) 0) := by
  have hb : Below w.heap.size w (w.alloc (.cells #[.int .i64 0, .int .i64 0, .int .i64 0] 46)) := (Below.refl _ _).alloc (Nat.le_refl _) _
  have hk : SlotAt (w.alloc (.cells #[.int .i64 0, .int .i64 0, .int .i64 0] 46)) w.heap.size 0 0 0 := heap_alloc_new w _
  have ha := and_255 n (by omega) (by omega)
  have ha2 := and_255 (n / 256) (by omega) (by omega)
  have HB := Lib.hid hb
  have HK := Lib.hid hk
  clear hb hk
  go_enter Try.func16, Try.ntmps16
  go_wp2_with fail
  have hf : SlotAt ((w.alloc (.cells #[.int .i64 (n / 65536), .int .i64 (n / 256 % 256), .int .i64 (n % 256)] 46)).alloc (.cells #[.int .i64 (n / 65536), .int .i64 (n / 256 % 256)] 23)) w.heap.size (n / 65536) (n / 256 % 256) (n % 256) := heap_alloc2_old w _ _
  exact bodyPost_ret (results_cell_tmp_row rfl _ _ w.heap.size _ _ _ _ rfl hf Try.underlying46 rfl info_slot) rfl ⟨rfl, ((Below.refl _ _).alloc (Nat.le_refl _) _).alloc (by simp) _⟩
set_option maxRecDepth 100000 in
theorem rslot_any (n : Int) (w : World) (h0 : ¬ n < 0) (h : ¬ 4294967295 < n) : Calls Try.prog 17 #[.int .i64 n] w fun e w' => e = .returned (.agg #[.int .i64 (n / 65536), .int .i64 (n / 256 % 256), .int .i64 (n % 256)]) ∧ Below w.heap.size w w' := by
  have hb : Below w.heap.size w (w.alloc (.cells #[.int .i64 0, .int .i64 0, .int .i64 0] 46)) := (Below.refl _ _).alloc (Nat.le_refl _) _
  have hk : SlotAt (w.alloc (.cells #[.int .i64 0, .int .i64 0, .int .i64 0] 46)) w.heap.size 0 0 0 := heap_alloc_new w _
  have HB := Lib.hid hb
  have HK := Lib.hid hk
  clear hb hk
  go_enter Try.func17, Try.ntmps17
  go_wp2_with (refine wpList_store_row rfl _ (.tmp 2) (.tmp 11) rfl w.heap.size _ rfl rfl _ _ HK.out info_slot rfl (one_slot _ _ _) ?_)
  refine bodyPost_ret (results_cell_row rfl _ _ w.heap.size _ _ _ _ rfl (setRow_heap _ _ _ _ _ (0, 0) HK.out) Try.underlying46 rfl info_slot) rfl ⟨rfl, below_setRow HB.out (Nat.le_refl _) _⟩
end Go.Proofs.Ytkgopaelfmppiaa
