/- What the entries may hold: numbers, all, constant; the flag's name. -/
import Derived.Test.YtkgopaelfmppiaaArB
namespace Go.Proofs.Ytkgopaelfmppiaa
open Go.RowKit
set_option linter.unusedSimpArgs false
set_option linter.unusedVariables false
theorem low_any (k : Int) (w : World) : Calls Try.prog 98 #[.int .i64 k] w fun e w' => e = .returned (.int .i64 (kLow k)) ∧ Below w.heap.size w w' := by
  have hf := span_f1 (kSize k) (kLow k) (kHigh k)
  go_enter Try.func98, Try.ntmps98
  go_wp2_with (go_at_call 88; refine (span_any _ _).mono ?_; rintro e w1 ⟨rfl, hb⟩)
  go_ret
  exact ⟨rfl, hb⟩
theorem info_spec4 : (Try.prog.info? 27).map (·.size) = some 4 := by kernel_rfl
theorem one_spec4 (a b c d : Int) : (#[.int .i64 a, .int .i64 b, .int .i64 c, .int .i64 d] : Array Value).all (·.oneCell') = true := by simp [Value.oneCell']
def Spec4 (w : World) (g : Nat) (k a lo hi : Int) : Prop := w.heap[g]? = some (.cells #[.int .i64 k, .int .i64 a, .int .i64 lo, .int .i64 hi] 27 (0, 0))
set_option maxRecDepth 100000 in
theorem arN_any (k lo hi : Int) (w : World) : Calls Try.prog 79 #[.int .i64 k, .int .i64 lo, .int .i64 hi] w fun e w' => e = .returned (.agg #[.int .i64 k, .int .i64 3, .int .i64 lo, .int .i64 hi]) ∧ Below w.heap.size w w' := by
  have hb : Below w.heap.size w (w.alloc (.cells #[.int .i64 0, .int .i64 0, .int .i64 0, .int .i64 0] 27)) := (Below.refl _ _).alloc (Nat.le_refl _) _
  have hk : Spec4 (w.alloc (.cells #[.int .i64 0, .int .i64 0, .int .i64 0, .int .i64 0] 27)) w.heap.size 0 0 0 0 := heap_alloc_new w _
  have HB := Lib.hid hb
  have HK := Lib.hid hk
  clear hb hk
  go_enter Try.func79, Try.ntmps79
  go_wp2_with (refine wpList_store_row rfl _ (.tmp 6) (.tmp 10) rfl w.heap.size _ rfl rfl _ _ HK.out info_spec4 rfl (one_spec4 _ _ _ _) ?_)
  exact bodyPost_ret (results_cell_row rfl _ _ w.heap.size _ _ _ _ rfl (setRow_heap _ _ _ _ _ (0, 0) HK.out) Try.underlying27 rfl info_spec4) rfl ⟨rfl, below_setRow HB.out (Nat.le_refl _) _⟩
set_option maxRecDepth 100000 in
theorem arC_any (n : Int) (w : World) : Calls Try.prog 81 #[.int .i64 n] w fun e w' => e = .returned (.agg #[.int .i64 2, .int .i64 4, .int .i64 n, .int .i64 n]) ∧ Below w.heap.size w w' := by
  have hb : Below w.heap.size w (w.alloc (.cells #[.int .i64 0, .int .i64 0, .int .i64 0, .int .i64 0] 27)) := (Below.refl _ _).alloc (Nat.le_refl _) _
  have hk : Spec4 (w.alloc (.cells #[.int .i64 0, .int .i64 0, .int .i64 0, .int .i64 0] 27)) w.heap.size 0 0 0 0 := heap_alloc_new w _
  have HB := Lib.hid hb
  have HK := Lib.hid hk
  clear hb hk
  go_enter Try.func81, Try.ntmps81
  go_wp2_with (refine wpList_store_row rfl _ (.tmp 2) (.tmp 5) rfl w.heap.size _ rfl rfl _ _ HK.out info_spec4 rfl (one_spec4 _ _ _ _) ?_)
  exact bodyPost_ret (results_cell_row rfl _ _ w.heap.size _ _ _ _ rfl (setRow_heap _ _ _ _ _ (0, 0) HK.out) Try.underlying27 rfl info_spec4) rfl ⟨rfl, below_setRow HB.out (Nat.le_refl _) _⟩
set_option maxRecDepth 100000 in
theorem arA_any (k : Int) (w : World) : Calls Try.prog 80 #[.int .i64 k] w fun e w' => e = .returned (.agg #[.int .i64 k, .int .i64 3, .int .i64 (kLow k), .int .i64 (kHigh k)]) ∧ Below w.heap.size w w' := by
  have hb : Below w.heap.size w (w.alloc (.cells #[.int .i64 0, .int .i64 0, .int .i64 0, .int .i64 0] 27)) := (Below.refl _ _).alloc (Nat.le_refl _) _
  have hk : Spec4 (w.alloc (.cells #[.int .i64 0, .int .i64 0, .int .i64 0, .int .i64 0] 27)) w.heap.size 0 0 0 0 := heap_alloc_new w _
  have HB := Lib.hid hb
  have HK := Lib.hid hk
  have hs : w.heap.size < (w.alloc (.cells #[.int .i64 0, .int .i64 0, .int .i64 0, .int .i64 0] 27)).heap.size := by simp
  have HS := Lib.hid hs
  clear hb hk hs
  go_enter Try.func80, Try.ntmps80
  go_wp2_with fail
  generalize (w.alloc (.cells #[.int .i64 0, .int .i64 0, .int .i64 0, .int .i64 0] 27)) = w0 at HB HK HS ⊢
  refine (low_any k _).mono ?_
  rintro e w1 ⟨rfl, hb1⟩
  have HB1 := Lib.hid (kF hb1 HB.out)
  have HK1 : Hid (Spec4 w1 w.heap.size 0 0 0 0) := Lib.hid ((hb1.block _ HS.out).trans HK.out)
  have HS1 : Hid (w.heap.size < w1.heap.size) := Lib.hid (Nat.lt_of_lt_of_le HS.out hb1.size)
  clear hb1
  go_wp2_with fail
  refine (high_any k _).mono ?_
  rintro e w2 ⟨rfl, hb2⟩
  have HB2 := Lib.hid (kF hb2 HB1.out)
  have HK2 : Hid (Spec4 w2 w.heap.size 0 0 0 0) := Lib.hid ((hb2.block _ HS1.out).trans HK1.out)
  have HS2 : Hid (w.heap.size < w2.heap.size) := Lib.hid (Nat.lt_of_lt_of_le HS1.out hb2.size)
  clear hb2
  go_wp2_with fail
  refine (arN_any k _ _ _).mono ?_
  rintro e w3 ⟨rfl, hb3⟩
  have HB3 := Lib.hid (kF hb3 HB2.out)
  have HK3 : Hid (Spec4 w3 w.heap.size 0 0 0 0) := Lib.hid ((hb3.block _ HS2.out).trans HK2.out)
  clear hb3
  go_wp2_with (refine wpList_store_row rfl _ (.tmp 2) (.tmp 8) rfl w.heap.size _ rfl rfl _ _ HK3.out info_spec4 rfl (one_spec4 _ _ _ _) ?_)
  exact bodyPost_ret (results_cell_row rfl _ _ w.heap.size _ _ _ _ rfl (setRow_heap _ _ _ _ _ (0, 0) HK3.out) Try.underlying27 rfl info_spec4) rfl ⟨rfl, below_setRow HB3.out (Nat.le_refl _) _⟩
set_option maxRecDepth 100000 in
theorem theFlag_any (w : World) : Calls Try.prog 64 #[] w fun e w' => e = .returned (.agg #[.int .i64 5118, .int .i64 0]) ∧ Below w.heap.size w w' := by
  have hb : Below w.heap.size w (w.alloc (.cells #[.int .i64 0, .int .i64 0] 23)) := (Below.refl _ _).alloc (Nat.le_refl _) _
  have hk : Key2 (w.alloc (.cells #[.int .i64 0, .int .i64 0] 23)) w.heap.size 0 0 := heap_alloc_new w _
  have HB := Lib.hid hb
  have HK := Lib.hid hk
  clear hb hk
  go_enter Try.func64, Try.ntmps64
  go_wp2_with (refine wpList_store_row rfl _ (.tmp 0) (.tmp 1) rfl w.heap.size _ rfl rfl _ _ HK.out info_key rfl (one_key _ _) ?_)
  exact bodyPost_ret (results_cell_row rfl _ _ w.heap.size _ _ _ _ rfl (setRow_heap _ _ _ _ _ (0, 0) HK.out) Try.underlying23 rfl info_key) rfl ⟨rfl, below_setRow HB.out (Nat.le_refl _) _⟩
end Go.Proofs.Ytkgopaelfmppiaa
