/- What New answers. -/
import Derived.Test.YtllaajkpobpeiaaOJFrameH
namespace Go.Proofs.Ytllaajkpobpeiaa
open Go.RowKit
/-- Some bytes, and noughts behind. -/
def dOf (l : List Int) (j : Nat) : Int := l.getD j 0
theorem fill_same {w : World} {B m c : Nat} {A : Option Addr} {l : List Int} (h : Byt w B A m c l) (j : Nat) : (if j < m then l.getD j 0 else 0) = dOf l j := by
  unfold dOf
  by_cases e : j < m
  · rw [if_pos e]
  · rw [if_neg e]
    have := h.len
    simp [List.getD, List.getElem?_eq_none (show l.length ≤ j by omega)]
theorem new_ok (id : Int) (A : Option Addr) (m c : Nat) (l : List Int) (w : World) (h : Byt w w.heap.size A m c l) (hc : chk id false m (dOf l) = 0) :
    Calls Try.prog 71 #[.int .i64 id, .slice A m c] w fun e w' => e = .returned (.tuple #[.agg #[.int .i64 id, .bool false, .int .i64 (m : Int), .int .u8 (dOf l 0), .int .u8 (dOf l 1), .int .u8 (dOf l 2), .int .u8 (dOf l 3), .int .u8 (dOf l 4), .int .u8 (dOf l 5), .int .u8 (dOf l 6), .int .u8 (dOf l 7)], .int .i64 0]) ∧ Below w.heap.size w w' := by
  have hmx := h.max
  have hcp := h.cap
  simp only [maxLen] at hmx
  have hz : FrAt ((w.alloc (.cells #[.int .i64 0, .bool false, .int .i64 0, .int .u8 0, .int .u8 0, .int .u8 0, .int .u8 0, .int .u8 0, .int .u8 0, .int .u8 0, .int .u8 0] 57)).alloc (.cells #[.int .i64 0, .bool false, .int .i64 0, .int .u8 0, .int .u8 0, .int .u8 0, .int .u8 0, .int .u8 0, .int .u8 0, .int .u8 0, .int .u8 0] 57)) w.heap.size 0 false 0 (fun _ => 0) := heap_alloc2_old w _ _
  have hy : FrAt ((w.alloc (.cells #[.int .i64 0, .bool false, .int .i64 0, .int .u8 0, .int .u8 0, .int .u8 0, .int .u8 0, .int .u8 0, .int .u8 0, .int .u8 0, .int .u8 0] 57)).alloc (.cells #[.int .i64 0, .bool false, .int .i64 0, .int .u8 0, .int .u8 0, .int .u8 0, .int .u8 0, .int .u8 0, .int .u8 0, .int .u8 0, .int .u8 0] 57)) (w.heap.size + 1) 0 false 0 (fun _ => 0) := heap_alloc2_new w _ _
  have hb : Below w.heap.size w ((w.alloc (.cells #[.int .i64 0, .bool false, .int .i64 0, .int .u8 0, .int .u8 0, .int .u8 0, .int .u8 0, .int .u8 0, .int .u8 0, .int .u8 0, .int .u8 0] 57)).alloc (.cells #[.int .i64 0, .bool false, .int .i64 0, .int .u8 0, .int .u8 0, .int .u8 0, .int .u8 0, .int .u8 0, .int .u8 0, .int .u8 0, .int .u8 0] 57)) := ((Below.refl _ _).alloc (Nat.le_refl _) _).alloc (by simp) _
  have hs : w.heap.size + 1 < ((w.alloc (.cells #[.int .i64 0, .bool false, .int .i64 0, .int .u8 0, .int .u8 0, .int .u8 0, .int .u8 0, .int .u8 0, .int .u8 0, .int .u8 0, .int .u8 0] 57)).alloc (.cells #[.int .i64 0, .bool false, .int .i64 0, .int .u8 0, .int .u8 0, .int .u8 0, .int .u8 0, .int .u8 0, .int .u8 0, .int .u8 0, .int .u8 0] 57)).heap.size := by simp
  have hca : ∀ w : World, Calls Try.prog 88 #[.agg #[.int .i64 id, .bool false, .int .i64 (m : Int), .int .u8 (dOf l 0), .int .u8 (dOf l 1), .int .u8 (dOf l 2), .int .u8 (dOf l 3), .int .u8 (dOf l 4), .int .u8 (dOf l 5), .int .u8 (dOf l 6), .int .u8 (dOf l 7)]] w fun e w' => e = .returned (.tuple #[.agg #[.int .i64 id, .bool false, .int .i64 (m : Int), .int .u8 (dOf l 0), .int .u8 (dOf l 1), .int .u8 (dOf l 2), .int .u8 (dOf l 3), .int .u8 (dOf l 4), .int .u8 (dOf l 5), .int .u8 (dOf l 6), .int .u8 (dOf l 7)], .int .i64 0]) ∧ Below w.heap.size w w' := fun w => checked_ok id m false (dOf l) w hc
  
  have hz1 := hz.row_other (g' := w.heap.size + 1) (by omega) #[.int .i64 id, .bool false, .int .i64 (m : Int), .int .u8 0, .int .u8 0, .int .u8 0, .int .u8 0, .int .u8 0, .int .u8 0, .int .u8 0, .int .u8 0]
  have hy1 := hy.row id m false (fun _ => 0)
  have hb1 := below_setRow hb (show w.heap.size ≤ w.heap.size + 1 by omega) #[.int .i64 id, .bool false, .int .i64 (m : Int), .int .u8 0, .int .u8 0, .int .u8 0, .int .u8 0, .int .u8 0, .int .u8 0, .int .u8 0, .int .u8 0]
  have hs1 : w.heap.size + 1 < (((w.alloc (.cells #[.int .i64 0, .bool false, .int .i64 0, .int .u8 0, .int .u8 0, .int .u8 0, .int .u8 0, .int .u8 0, .int .u8 0, .int .u8 0, .int .u8 0] 57)).alloc (.cells #[.int .i64 0, .bool false, .int .i64 0, .int .u8 0, .int .u8 0, .int .u8 0, .int .u8 0, .int .u8 0, .int .u8 0, .int .u8 0, .int .u8 0] 57)).setRow (w.heap.size + 1) #[.int .i64 id, .bool false, .int .i64 (m : Int), .int .u8 0, .int .u8 0, .int .u8 0, .int .u8 0, .int .u8 0, .int .u8 0, .int .u8 0, .int .u8 0]).heap.size := by simp
  have h1 := h.below hb1
  have HY := Lib.hid hy
  have HY1 := Lib.hid hy1
  have HZ1 := Lib.hid hz1
  have HB1 := Lib.hid hb1
  have HS1 := Lib.hid hs1
  have HH := Lib.hid h1
  have HCA := Lib.hid hca
  clear hb hz hy hs hca hc hz1 hy1 hb1 hs1 h1 h
  go_enter Try.func71, Try.ntmps71
  go_wp2_with (first
    | (refine wpList_store_row rfl _ (.tmp 6) (.tmp 10) rfl (w.heap.size + 1) #[.int .i64 id, .bool false, .int .i64 (m : Int), .int .u8 0, .int .u8 0, .int .u8 0, .int .u8 0, .int .u8 0, .int .u8 0, .int .u8 0, .int .u8 0] rfl rfl _ _ HY.out info_frame rfl (one_frame id m false (fun _ => 0)) ?_)
    | (refine wpList_fill rfl (.tmp 12) (.tmp 13) rfl rfl rfl HH.out HY1.out ?_; intro w2 hf2 hg2; have hy2 : FrAt w2 (w.heap.size + 1) id false m (dOf l) := hf2.congr (fun j _ => fill_same HH.out j); have hz2 := HZ1.out.grown hg2 (by omega); have hb2 := below_grown HB1.out hg2 (by omega) (Nat.le_of_lt (Nat.lt_of_succ_lt HS1.out)); have hs2 : w.heap.size < w2.heap.size := Nat.lt_of_lt_of_le (Nat.lt_of_succ_lt HS1.out) hg2.size; clear hf2 hg2)
    | (refine wpList_load_row rfl _ (.tmp 6) rfl (w.heap.size + 1) rfl _ _ _ _ hy2 Try.underlying57 rfl info_frame ?_)
    | (go_at_call 88; refine (HCA.out _).mono ?_; rintro e w3 ⟨rfl, hb3⟩; have hz3 := FrAt.below hz2 hb3 hs2; have hbw := hb2.trans (hb3.mono hb2.size); clear hb3)
    | (refine wpList_store_row rfl _ (.tmp 4) (.tmp 17) rfl w.heap.size _ rfl rfl _ _ hz3 info_frame rfl (one_frame id m false (dOf l)) ?_; have hf4 := hz3.row id m false (dOf l); have hbw4 := below_setRow hbw (Nat.le_refl w.heap.size) #[.int .i64 id, .bool false, .int .i64 (m : Int), .int .u8 (dOf l 0), .int .u8 (dOf l 1), .int .u8 (dOf l 2), .int .u8 (dOf l 3), .int .u8 (dOf l 4), .int .u8 (dOf l 5), .int .u8 (dOf l 6), .int .u8 (dOf l 7)]))
  all_goals exact bodyPost_ret (results_cell_tmp_row rfl _ _ w.heap.size _ _ _ _ rfl hf4 Try.underlying57 rfl info_frame) rfl ⟨rfl, hbw4⟩
theorem new_no (id : Int) (A : Option Addr) (m c : Nat) (l : List Int) (w : World) (h : Byt w w.heap.size A m c l) (hc : ¬ chk id false m (dOf l) = 0) :
    Calls Try.prog 71 #[.int .i64 id, .slice A m c] w fun e w' => e = .returned (.tuple #[.agg #[.int .i64 0, .bool false, .int .i64 0, .int .u8 0, .int .u8 0, .int .u8 0, .int .u8 0, .int .u8 0, .int .u8 0, .int .u8 0, .int .u8 0], .int .i64 (chk id false m (dOf l))]) ∧ Below w.heap.size w w' := by
  have hmx := h.max
  have hcp := h.cap
  simp only [maxLen] at hmx
  have hz : FrAt ((w.alloc (.cells #[.int .i64 0, .bool false, .int .i64 0, .int .u8 0, .int .u8 0, .int .u8 0, .int .u8 0, .int .u8 0, .int .u8 0, .int .u8 0, .int .u8 0] 57)).alloc (.cells #[.int .i64 0, .bool false, .int .i64 0, .int .u8 0, .int .u8 0, .int .u8 0, .int .u8 0, .int .u8 0, .int .u8 0, .int .u8 0, .int .u8 0] 57)) w.heap.size 0 false 0 (fun _ => 0) := heap_alloc2_old w _ _
  have hy : FrAt ((w.alloc (.cells #[.int .i64 0, .bool false, .int .i64 0, .int .u8 0, .int .u8 0, .int .u8 0, .int .u8 0, .int .u8 0, .int .u8 0, .int .u8 0, .int .u8 0] 57)).alloc (.cells #[.int .i64 0, .bool false, .int .i64 0, .int .u8 0, .int .u8 0, .int .u8 0, .int .u8 0, .int .u8 0, .int .u8 0, .int .u8 0, .int .u8 0] 57)) (w.heap.size + 1) 0 false 0 (fun _ => 0) := heap_alloc2_new w _ _
  have hb : Below w.heap.size w ((w.alloc (.cells #[.int .i64 0, .bool false, .int .i64 0, .int .u8 0, .int .u8 0, .int .u8 0, .int .u8 0, .int .u8 0, .int .u8 0, .int .u8 0, .int .u8 0] 57)).alloc (.cells #[.int .i64 0, .bool false, .int .i64 0, .int .u8 0, .int .u8 0, .int .u8 0, .int .u8 0, .int .u8 0, .int .u8 0, .int .u8 0, .int .u8 0] 57)) := ((Below.refl _ _).alloc (Nat.le_refl _) _).alloc (by simp) _
  have hs : w.heap.size + 1 < ((w.alloc (.cells #[.int .i64 0, .bool false, .int .i64 0, .int .u8 0, .int .u8 0, .int .u8 0, .int .u8 0, .int .u8 0, .int .u8 0, .int .u8 0, .int .u8 0] 57)).alloc (.cells #[.int .i64 0, .bool false, .int .i64 0, .int .u8 0, .int .u8 0, .int .u8 0, .int .u8 0, .int .u8 0, .int .u8 0, .int .u8 0, .int .u8 0] 57)).heap.size := by simp
  have hca : ∀ w : World, Calls Try.prog 88 #[.agg #[.int .i64 id, .bool false, .int .i64 (m : Int), .int .u8 (dOf l 0), .int .u8 (dOf l 1), .int .u8 (dOf l 2), .int .u8 (dOf l 3), .int .u8 (dOf l 4), .int .u8 (dOf l 5), .int .u8 (dOf l 6), .int .u8 (dOf l 7)]] w fun e w' => e = .returned (.tuple #[.agg #[.int .i64 0, .bool false, .int .i64 0, .int .u8 0, .int .u8 0, .int .u8 0, .int .u8 0, .int .u8 0, .int .u8 0, .int .u8 0, .int .u8 0], .int .i64 (chk id false m (dOf l))]) ∧ Below w.heap.size w w' := fun w => checked_no id m false (dOf l) w hc
  generalize chk id false m (dOf l) = q at hca hc
  have hz1 := hz.row_other (g' := w.heap.size + 1) (by omega) #[.int .i64 id, .bool false, .int .i64 (m : Int), .int .u8 0, .int .u8 0, .int .u8 0, .int .u8 0, .int .u8 0, .int .u8 0, .int .u8 0, .int .u8 0]
  have hy1 := hy.row id m false (fun _ => 0)
  have hb1 := below_setRow hb (show w.heap.size ≤ w.heap.size + 1 by omega) #[.int .i64 id, .bool false, .int .i64 (m : Int), .int .u8 0, .int .u8 0, .int .u8 0, .int .u8 0, .int .u8 0, .int .u8 0, .int .u8 0, .int .u8 0]
  have hs1 : w.heap.size + 1 < (((w.alloc (.cells #[.int .i64 0, .bool false, .int .i64 0, .int .u8 0, .int .u8 0, .int .u8 0, .int .u8 0, .int .u8 0, .int .u8 0, .int .u8 0, .int .u8 0] 57)).alloc (.cells #[.int .i64 0, .bool false, .int .i64 0, .int .u8 0, .int .u8 0, .int .u8 0, .int .u8 0, .int .u8 0, .int .u8 0, .int .u8 0, .int .u8 0] 57)).setRow (w.heap.size + 1) #[.int .i64 id, .bool false, .int .i64 (m : Int), .int .u8 0, .int .u8 0, .int .u8 0, .int .u8 0, .int .u8 0, .int .u8 0, .int .u8 0, .int .u8 0]).heap.size := by simp
  have h1 := h.below hb1
  have HY := Lib.hid hy
  have HY1 := Lib.hid hy1
  have HZ1 := Lib.hid hz1
  have HB1 := Lib.hid hb1
  have HS1 := Lib.hid hs1
  have HH := Lib.hid h1
  have HCA := Lib.hid hca
  clear hb hz hy hs hca hc hz1 hy1 hb1 hs1 h1 h
  go_enter Try.func71, Try.ntmps71
  go_wp2_with (first
    | (refine wpList_store_row rfl _ (.tmp 6) (.tmp 10) rfl (w.heap.size + 1) #[.int .i64 id, .bool false, .int .i64 (m : Int), .int .u8 0, .int .u8 0, .int .u8 0, .int .u8 0, .int .u8 0, .int .u8 0, .int .u8 0, .int .u8 0] rfl rfl _ _ HY.out info_frame rfl (one_frame id m false (fun _ => 0)) ?_)
    | (refine wpList_fill rfl (.tmp 12) (.tmp 13) rfl rfl rfl HH.out HY1.out ?_; intro w2 hf2 hg2; have hy2 : FrAt w2 (w.heap.size + 1) id false m (dOf l) := hf2.congr (fun j _ => fill_same HH.out j); have hz2 := HZ1.out.grown hg2 (by omega); have hb2 := below_grown HB1.out hg2 (by omega) (Nat.le_of_lt (Nat.lt_of_succ_lt HS1.out)); have hs2 : w.heap.size < w2.heap.size := Nat.lt_of_lt_of_le (Nat.lt_of_succ_lt HS1.out) hg2.size; clear hf2 hg2)
    | (refine wpList_load_row rfl _ (.tmp 6) rfl (w.heap.size + 1) rfl _ _ _ _ hy2 Try.underlying57 rfl info_frame ?_)
    | (go_at_call 88; refine (HCA.out _).mono ?_; rintro e w3 ⟨rfl, hb3⟩; have hz3 := FrAt.below hz2 hb3 hs2; have hbw := hb2.trans (hb3.mono hb2.size); clear hb3)
    | (refine wpList_store_row rfl _ (.tmp 4) (.tmp 17) rfl w.heap.size _ rfl rfl _ _ hz3 info_frame rfl (one_frame 0 0 false (fun _ => 0)) ?_; have hf4 := hz3.row 0 0 false (fun _ => 0); have hbw4 := below_setRow hbw (Nat.le_refl w.heap.size) #[.int .i64 0, .bool false, .int .i64 0, .int .u8 0, .int .u8 0, .int .u8 0, .int .u8 0, .int .u8 0, .int .u8 0, .int .u8 0, .int .u8 0]))
  all_goals exact bodyPost_ret (results_cell_tmp_row rfl _ _ w.heap.size _ _ _ _ rfl hf4 Try.underlying57 rfl info_frame) rfl ⟨rfl, hbw4⟩
end Go.Proofs.Ytllaajkpobpeiaa