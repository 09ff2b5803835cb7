/- What the document's New answers. -/
import Derived.Test.YtllaajkpobpeiaaOJFrameK
namespace Go.Proofs.Ytllaajkpobpeiaa
open Go.RowKit
theorem dnew_ok (id : Int) (A : Option Addr) (m c : Nat) (l : List Int) (w : World) (h : Byt w w.heap.size A m c l) (hc : chk id false m (dOf l) = 0) :
    Calls Try.prog 69 #[.int .i64 id, .slice A m c] w fun e w' => e = .returned (.tuple #[.agg #[.int .i64 id, .bool false, .int .i64 (m : Int), .int .u8 (dOf l 0), .int .u8 (dOf l 1), .int .u8 (dOf l 2), .int .u8 (dOf l 3), .int .u8 (dOf l 4), .int .u8 (dOf l 5), .int .u8 (dOf l 6), .int .u8 (dOf l 7)], .int .i64 0]) ∧ Below w.heap.size w w' := by
  have hmx := h.max
  have hcp := h.cap
  simp only [maxLen] at hmx
  have hz : FrAt ((w.alloc (.cells #[.int .i64 0, .bool false, .int .i64 0, .int .u8 0, .int .u8 0, .int .u8 0, .int .u8 0, .int .u8 0, .int .u8 0, .int .u8 0, .int .u8 0] 57)).alloc (.cells #[.int .i64 0, .bool false, .int .i64 0, .int .u8 0, .int .u8 0, .int .u8 0, .int .u8 0, .int .u8 0, .int .u8 0, .int .u8 0, .int .u8 0] 57)) w.heap.size 0 false 0 (fun _ => 0) := heap_alloc2_old w _ _
  have hy : FrAt ((w.alloc (.cells #[.int .i64 0, .bool false, .int .i64 0, .int .u8 0, .int .u8 0, .int .u8 0, .int .u8 0, .int .u8 0, .int .u8 0, .int .u8 0, .int .u8 0] 57)).alloc (.cells #[.int .i64 0, .bool false, .int .i64 0, .int .u8 0, .int .u8 0, .int .u8 0, .int .u8 0, .int .u8 0, .int .u8 0, .int .u8 0, .int .u8 0] 57)) (w.heap.size + 1) 0 false 0 (fun _ => 0) := heap_alloc2_new w _ _
  have hb : Below w.heap.size w ((w.alloc (.cells #[.int .i64 0, .bool false, .int .i64 0, .int .u8 0, .int .u8 0, .int .u8 0, .int .u8 0, .int .u8 0, .int .u8 0, .int .u8 0, .int .u8 0] 57)).alloc (.cells #[.int .i64 0, .bool false, .int .i64 0, .int .u8 0, .int .u8 0, .int .u8 0, .int .u8 0, .int .u8 0, .int .u8 0, .int .u8 0, .int .u8 0] 57)) := ((Below.refl _ _).alloc (Nat.le_refl _) _).alloc (by simp) _
  have hca : ∀ w : World, Calls Try.prog 40 #[.agg #[.int .i64 id, .bool false, .int .i64 (m : Int), .int .u8 (dOf l 0), .int .u8 (dOf l 1), .int .u8 (dOf l 2), .int .u8 (dOf l 3), .int .u8 (dOf l 4), .int .u8 (dOf l 5), .int .u8 (dOf l 6), .int .u8 (dOf l 7)]] w fun e w' => e = .returned (.int .i64 (chk id false m (dOf l))) ∧ Below w.heap.size w w' := fun w => dcheck_any id m false (dOf l) w
  simp only [hc] at hca
  have hz1 := hz.row_other (g' := w.heap.size + 1) (by omega) #[.int .i64 id, .bool false, .int .i64 (m : Int), .int .u8 0, .int .u8 0, .int .u8 0, .int .u8 0, .int .u8 0, .int .u8 0, .int .u8 0, .int .u8 0]
  have hy1 := hy.row id m false (fun _ => 0)
  have hb1 := below_setRow hb (show w.heap.size ≤ w.heap.size + 1 by omega) #[.int .i64 id, .bool false, .int .i64 (m : Int), .int .u8 0, .int .u8 0, .int .u8 0, .int .u8 0, .int .u8 0, .int .u8 0, .int .u8 0, .int .u8 0]
  have hs1 : w.heap.size + 1 < (((w.alloc (.cells #[.int .i64 0, .bool false, .int .i64 0, .int .u8 0, .int .u8 0, .int .u8 0, .int .u8 0, .int .u8 0, .int .u8 0, .int .u8 0, .int .u8 0] 57)).alloc (.cells #[.int .i64 0, .bool false, .int .i64 0, .int .u8 0, .int .u8 0, .int .u8 0, .int .u8 0, .int .u8 0, .int .u8 0, .int .u8 0, .int .u8 0] 57)).setRow (w.heap.size + 1) #[.int .i64 id, .bool false, .int .i64 (m : Int), .int .u8 0, .int .u8 0, .int .u8 0, .int .u8 0, .int .u8 0, .int .u8 0, .int .u8 0, .int .u8 0]).heap.size := by simp
  have h1 := h.below hb1
  have HY := Lib.hid hy
  have HY1 := Lib.hid hy1
  have HZ1 := Lib.hid hz1
  have HB1 := Lib.hid hb1
  have HS1 := Lib.hid hs1
  have HH := Lib.hid h
  have HCA := Lib.hid hca
  clear hb hz hy hca hz1 hy1 hb1 hs1 h1 h hc
  go_enter Try.func69, Try.ntmps69
  go_wp2_with (first
    | (refine wpList_store_row rfl _ (.tmp 6) (.tmp 12) rfl (w.heap.size + 1) #[.int .i64 id, .bool false, .int .i64 (m : Int), .int .u8 0, .int .u8 0, .int .u8 0, .int .u8 0, .int .u8 0, .int .u8 0, .int .u8 0, .int .u8 0] rfl rfl _ _ HY.out info_frame rfl (one_frame id m false (fun _ => 0)) ?_))
  go_loopw [7] (fun i wr => ∃ j : Nat, j ≤ m ∧ j ≤ 8 ∧ i = .int .i64 j ∧ Hid (FrAt wr (w.heap.size + 1) id false m (fun t => if t < j then l.getD t 0 else 0)) ∧ Hid (FrAt wr w.heap.size 0 false 0 (fun _ => 0)) ∧ Below w.heap.size w wr) (fun i _ => 8 - (intOf i).toNat)
  case atStart => exact ⟨0, Nat.zero_le _, Nat.zero_le _, rfl, Lib.hid (HY1.out.congr fun j _ => by simp), HZ1, HB1.out⟩
  case round =>
    obtain ⟨j, hj, hj8, rfl, HFr, HZr, hbel⟩ := hrel
    by_cases hlt : j < m
    · by_cases hlt8 : j < 8
      · obtain ⟨b, off, rfl, hb, hcl⟩ := HH.out.cells (by omega)
        have hcj := hcl j hlt
        have hcell : wr.cell? ⟨b, off + j, none⟩ = some (.int .u8 (l.getD j 0)) := (hbel.cell (p := ⟨b, off + j, none⟩) hb).trans hcj
        have hsl := HFr.out.byte hlt8
        have hfz := HFr.out.frozen (3 + j)
        have hset := HFr.out.set hlt8 (l.getD j 0)
        have HST := Lib.hid hset
        clear hcl hcj hset
        go_wp2_with fail
        go_roundw
        case rel =>
          refine ⟨j + 1, by omega, by omega, by go_num, Lib.hid (HST.out.congr fun t _ => ?_), Lib.hid ?_, hbel.setCell (p := ⟨w.heap.size + 1, 3 + j, none⟩) (show w.heap.size ≤ w.heap.size + 1 by omega) _⟩
          · show (if t = j then l.getD j 0 else if t < j then l.getD t 0 else 0) = if t < j + 1 then l.getD t 0 else 0
            by_cases e : t = j
            · subst e; rw [if_pos rfl, if_pos (by omega)]
            · by_cases e2 : t < j
              · rw [if_neg e, if_pos e2, if_pos (by omega)]
              · rw [if_neg e, if_neg e2, if_neg (by omega)]
          · exact HZr.out.below (B := w.heap.size + 1) ((Below.refl _ _).setCell (p := ⟨w.heap.size + 1, 3 + j, none⟩) (Nat.le_refl _) _) (by omega)
        case measure => simp [intOf]; omega
      · obtain rfl : j = 8 := by omega
        have hy2 : FrAt wr (w.heap.size + 1) id false m (dOf l) := HFr.out.congr fun t ht => by show (if t < 8 then l.getD t 0 else 0) = _; rw [if_pos ht]; rfl
        have hs2 : w.heap.size + 1 < wr.heap.size := hy2.lt
        go_wp2_with (first
          | (refine wpList_load_row rfl _ (.tmp 6) rfl (w.heap.size + 1) rfl _ _ _ _ hy2 Try.underlying57 rfl info_frame ?_)
          | (go_at_call 40; refine (HCA.out _).mono ?_; rintro e w3 ⟨rfl, hb3⟩; have hy3 := FrAt.below hy2 hb3 hs2; have hz3 := FrAt.below HZr.out hb3 (Nat.lt_of_succ_lt hs2); have hbw := hbel.trans (hb3.mono hbel.size); clear hb3)
          | (refine wpList_load_row rfl _ (.tmp 6) rfl (w.heap.size + 1) rfl _ _ _ _ hy3 Try.underlying57 rfl info_frame ?_)
          | (refine wpList_store_row rfl _ (.tmp 4) (.tmp 36) rfl w.heap.size _ rfl rfl _ _ hz3 info_frame rfl (one_frame id m false (dOf l)) ?_; have hf4 := hz3.row id m false (dOf l); have hbw4 := below_setRow hbw (Nat.le_refl w.heap.size) #[.int .i64 id, .bool false, .int .i64 (m : Int), .int .u8 (dOf l 0), .int .u8 (dOf l 1), .int .u8 (dOf l 2), .int .u8 (dOf l 3), .int .u8 (dOf l 4), .int .u8 (dOf l 5), .int .u8 (dOf l 6), .int .u8 (dOf l 7)]))
        all_goals exact bodyPost_ret (results_cell_tmp_row rfl _ _ w.heap.size _ _ _ _ rfl hf4 Try.underlying57 rfl info_frame) rfl ⟨rfl, hbw4⟩
    · obtain rfl : j = m := by omega
      have hy2 : FrAt wr (w.heap.size + 1) id false j (dOf l) := HFr.out.congr fun t ht => fill_same HH.out t
      have hs2 : w.heap.size + 1 < wr.heap.size := hy2.lt
      go_wp2_with (first
        | (refine wpList_load_row rfl _ (.tmp 6) rfl (w.heap.size + 1) rfl _ _ _ _ hy2 Try.underlying57 rfl info_frame ?_)
        | (go_at_call 40; refine (HCA.out _).mono ?_; rintro e w3 ⟨rfl, hb3⟩; have hy3 := FrAt.below hy2 hb3 hs2; have hz3 := FrAt.below HZr.out hb3 (Nat.lt_of_succ_lt hs2); have hbw := hbel.trans (hb3.mono hbel.size); clear hb3)
        | (refine wpList_load_row rfl _ (.tmp 6) rfl (w.heap.size + 1) rfl _ _ _ _ hy3 Try.underlying57 rfl info_frame ?_)
        | (refine wpList_store_row rfl _ (.tmp 4) (.tmp 36) rfl w.heap.size _ rfl rfl _ _ hz3 info_frame rfl (one_frame id j false (dOf l)) ?_; have hf4 := hz3.row id j false (dOf l); have hbw4 := below_setRow hbw (Nat.le_refl w.heap.size) #[.int .i64 id, .bool false, .int .i64 (j : Int), .int .u8 (dOf l 0), .int .u8 (dOf l 1), .int .u8 (dOf l 2), .int .u8 (dOf l 3), .int .u8 (dOf l 4), .int .u8 (dOf l 5), .int .u8 (dOf l 6), .int .u8 (dOf l 7)]))
      all_goals exact bodyPost_ret (results_cell_tmp_row rfl _ _ w.heap.size _ _ _ _ rfl hf4 Try.underlying57 rfl info_frame) rfl ⟨rfl, hbw4⟩
theorem dnew_no (id : Int) (A : Option Addr) (m c : Nat) (l : List Int) (w : World) (h : Byt w w.heap.size A m c l) (hc : ¬ chk id false m (dOf l) = 0) :
    Calls Try.prog 69 #[.int .i64 id, .slice A m c] w fun e w' => e = .returned (.tuple #[.agg #[.int .i64 0, .bool false, .int .i64 0, .int .u8 0, .int .u8 0, .int .u8 0, .int .u8 0, .int .u8 0, .int .u8 0, .int .u8 0, .int .u8 0], .int .i64 (chk id false m (dOf l))]) ∧ Below w.heap.size w w' := by
  have hmx := h.max
  have hcp := h.cap
  simp only [maxLen] at hmx
  have hz : FrAt ((w.alloc (.cells #[.int .i64 0, .bool false, .int .i64 0, .int .u8 0, .int .u8 0, .int .u8 0, .int .u8 0, .int .u8 0, .int .u8 0, .int .u8 0, .int .u8 0] 57)).alloc (.cells #[.int .i64 0, .bool false, .int .i64 0, .int .u8 0, .int .u8 0, .int .u8 0, .int .u8 0, .int .u8 0, .int .u8 0, .int .u8 0, .int .u8 0] 57)) w.heap.size 0 false 0 (fun _ => 0) := heap_alloc2_old w _ _
  have hy : FrAt ((w.alloc (.cells #[.int .i64 0, .bool false, .int .i64 0, .int .u8 0, .int .u8 0, .int .u8 0, .int .u8 0, .int .u8 0, .int .u8 0, .int .u8 0, .int .u8 0] 57)).alloc (.cells #[.int .i64 0, .bool false, .int .i64 0, .int .u8 0, .int .u8 0, .int .u8 0, .int .u8 0, .int .u8 0, .int .u8 0, .int .u8 0, .int .u8 0] 57)) (w.heap.size + 1) 0 false 0 (fun _ => 0) := heap_alloc2_new w _ _
  have hb : Below w.heap.size w ((w.alloc (.cells #[.int .i64 0, .bool false, .int .i64 0, .int .u8 0, .int .u8 0, .int .u8 0, .int .u8 0, .int .u8 0, .int .u8 0, .int .u8 0, .int .u8 0] 57)).alloc (.cells #[.int .i64 0, .bool false, .int .i64 0, .int .u8 0, .int .u8 0, .int .u8 0, .int .u8 0, .int .u8 0, .int .u8 0, .int .u8 0, .int .u8 0] 57)) := ((Below.refl _ _).alloc (Nat.le_refl _) _).alloc (by simp) _
  have hca : ∀ w : World, Calls Try.prog 40 #[.agg #[.int .i64 id, .bool false, .int .i64 (m : Int), .int .u8 (dOf l 0), .int .u8 (dOf l 1), .int .u8 (dOf l 2), .int .u8 (dOf l 3), .int .u8 (dOf l 4), .int .u8 (dOf l 5), .int .u8 (dOf l 6), .int .u8 (dOf l 7)]] w fun e w' => e = .returned (.int .i64 (chk id false m (dOf l))) ∧ Below w.heap.size w w' := fun w => dcheck_any id m false (dOf l) w
  generalize chk id false m (dOf l) = q at hca hc
  have hz1 := hz.row_other (g' := w.heap.size + 1) (by omega) #[.int .i64 id, .bool false, .int .i64 (m : Int), .int .u8 0, .int .u8 0, .int .u8 0, .int .u8 0, .int .u8 0, .int .u8 0, .int .u8 0, .int .u8 0]
  have hy1 := hy.row id m false (fun _ => 0)
  have hb1 := below_setRow hb (show w.heap.size ≤ w.heap.size + 1 by omega) #[.int .i64 id, .bool false, .int .i64 (m : Int), .int .u8 0, .int .u8 0, .int .u8 0, .int .u8 0, .int .u8 0, .int .u8 0, .int .u8 0, .int .u8 0]
  have hs1 : w.heap.size + 1 < (((w.alloc (.cells #[.int .i64 0, .bool false, .int .i64 0, .int .u8 0, .int .u8 0, .int .u8 0, .int .u8 0, .int .u8 0, .int .u8 0, .int .u8 0, .int .u8 0] 57)).alloc (.cells #[.int .i64 0, .bool false, .int .i64 0, .int .u8 0, .int .u8 0, .int .u8 0, .int .u8 0, .int .u8 0, .int .u8 0, .int .u8 0, .int .u8 0] 57)).setRow (w.heap.size + 1) #[.int .i64 id, .bool false, .int .i64 (m : Int), .int .u8 0, .int .u8 0, .int .u8 0, .int .u8 0, .int .u8 0, .int .u8 0, .int .u8 0, .int .u8 0]).heap.size := by simp
  have h1 := h.below hb1
  have HY := Lib.hid hy
  have HY1 := Lib.hid hy1
  have HZ1 := Lib.hid hz1
  have HB1 := Lib.hid hb1
  have HS1 := Lib.hid hs1
  have HH := Lib.hid h
  have HCA := Lib.hid hca
  clear hb hz hy hca hz1 hy1 hb1 hs1 h1 h
  go_enter Try.func69, Try.ntmps69
  go_wp2_with (first
    | (refine wpList_store_row rfl _ (.tmp 6) (.tmp 12) rfl (w.heap.size + 1) #[.int .i64 id, .bool false, .int .i64 (m : Int), .int .u8 0, .int .u8 0, .int .u8 0, .int .u8 0, .int .u8 0, .int .u8 0, .int .u8 0, .int .u8 0] rfl rfl _ _ HY.out info_frame rfl (one_frame id m false (fun _ => 0)) ?_))
  go_loopw [7] (fun i wr => ∃ j : Nat, j ≤ m ∧ j ≤ 8 ∧ i = .int .i64 j ∧ Hid (FrAt wr (w.heap.size + 1) id false m (fun t => if t < j then l.getD t 0 else 0)) ∧ Hid (FrAt wr w.heap.size 0 false 0 (fun _ => 0)) ∧ Below w.heap.size w wr) (fun i _ => 8 - (intOf i).toNat)
  case atStart => exact ⟨0, Nat.zero_le _, Nat.zero_le _, rfl, Lib.hid (HY1.out.congr fun j _ => by simp), HZ1, HB1.out⟩
  case round =>
    obtain ⟨j, hj, hj8, rfl, HFr, HZr, hbel⟩ := hrel
    by_cases hlt : j < m
    · by_cases hlt8 : j < 8
      · obtain ⟨b, off, rfl, hb, hcl⟩ := HH.out.cells (by omega)
        have hcj := hcl j hlt
        have hcell : wr.cell? ⟨b, off + j, none⟩ = some (.int .u8 (l.getD j 0)) := (hbel.cell (p := ⟨b, off + j, none⟩) hb).trans hcj
        have hsl := HFr.out.byte hlt8
        have hfz := HFr.out.frozen (3 + j)
        have hset := HFr.out.set hlt8 (l.getD j 0)
        have HST := Lib.hid hset
        clear hcl hcj hset
        go_wp2_with fail
        go_roundw
        case rel =>
          refine ⟨j + 1, by omega, by omega, by go_num, Lib.hid (HST.out.congr fun t _ => ?_), Lib.hid ?_, hbel.setCell (p := ⟨w.heap.size + 1, 3 + j, none⟩) (show w.heap.size ≤ w.heap.size + 1 by omega) _⟩
          · show (if t = j then l.getD j 0 else if t < j then l.getD t 0 else 0) = if t < j + 1 then l.getD t 0 else 0
            by_cases e : t = j
            · subst e; rw [if_pos rfl, if_pos (by omega)]
            · by_cases e2 : t < j
              · rw [if_neg e, if_pos e2, if_pos (by omega)]
              · rw [if_neg e, if_neg e2, if_neg (by omega)]
          · exact HZr.out.below (B := w.heap.size + 1) ((Below.refl _ _).setCell (p := ⟨w.heap.size + 1, 3 + j, none⟩) (Nat.le_refl _) _) (by omega)
        case measure => simp [intOf]; omega
      · obtain rfl : j = 8 := by omega
        have hy2 : FrAt wr (w.heap.size + 1) id false m (dOf l) := HFr.out.congr fun t ht => by show (if t < 8 then l.getD t 0 else 0) = _; rw [if_pos ht]; rfl
        have hs2 : w.heap.size + 1 < wr.heap.size := hy2.lt
        go_wp2_with (first
          | (refine wpList_load_row rfl _ (.tmp 6) rfl (w.heap.size + 1) rfl _ _ _ _ hy2 Try.underlying57 rfl info_frame ?_)
          | (go_at_call 40; refine (HCA.out _).mono ?_; rintro e w3 ⟨rfl, hb3⟩; have hy3 := FrAt.below hy2 hb3 hs2; have hz3 := FrAt.below HZr.out hb3 (Nat.lt_of_succ_lt hs2); have hbw := hbel.trans (hb3.mono hbel.size); clear hb3)
          | (refine wpList_load_row rfl _ (.tmp 6) rfl (w.heap.size + 1) rfl _ _ _ _ hy3 Try.underlying57 rfl info_frame ?_)
          | (refine wpList_store_row rfl _ (.tmp 4) (.tmp 34) rfl w.heap.size _ rfl rfl _ _ hz3 info_frame rfl (one_frame 0 0 false (fun _ => 0)) ?_; have hf4 := hz3.row 0 0 false (fun _ => 0); have hbw4 := below_setRow hbw (Nat.le_refl w.heap.size) #[.int .i64 0, .bool false, .int .i64 0, .int .u8 0, .int .u8 0, .int .u8 0, .int .u8 0, .int .u8 0, .int .u8 0, .int .u8 0, .int .u8 0]))
        all_goals exact bodyPost_ret (results_cell_tmp_row rfl _ _ w.heap.size _ _ _ _ rfl hf4 Try.underlying57 rfl info_frame) rfl ⟨rfl, hbw4⟩
    · obtain rfl : j = m := by omega
      have hy2 : FrAt wr (w.heap.size + 1) id false j (dOf l) := HFr.out.congr fun t ht => fill_same HH.out t
      have hs2 : w.heap.size + 1 < wr.heap.size := hy2.lt
      go_wp2_with (first
        | (refine wpList_load_row rfl _ (.tmp 6) rfl (w.heap.size + 1) rfl _ _ _ _ hy2 Try.underlying57 rfl info_frame ?_)
        | (go_at_call 40; refine (HCA.out _).mono ?_; rintro e w3 ⟨rfl, hb3⟩; have hy3 := FrAt.below hy2 hb3 hs2; have hz3 := FrAt.below HZr.out hb3 (Nat.lt_of_succ_lt hs2); have hbw := hbel.trans (hb3.mono hbel.size); clear hb3)
        | (refine wpList_load_row rfl _ (.tmp 6) rfl (w.heap.size + 1) rfl _ _ _ _ hy3 Try.underlying57 rfl info_frame ?_)
        | (refine wpList_store_row rfl _ (.tmp 4) (.tmp 34) rfl w.heap.size _ rfl rfl _ _ hz3 info_frame rfl (one_frame 0 0 false (fun _ => 0)) ?_; have hf4 := hz3.row 0 0 false (fun _ => 0); have hbw4 := below_setRow hbw (Nat.le_refl w.heap.size) #[.int .i64 0, .bool false, .int .i64 0, .int .u8 0, .int .u8 0, .int .u8 0, .int .u8 0, .int .u8 0, .int .u8 0, .int .u8 0, .int .u8 0]))
      all_goals exact bodyPost_ret (results_cell_tmp_row rfl _ _ w.heap.size _ _ _ _ rfl hf4 Try.underlying57 rfl info_frame) rfl ⟨rfl, hbw4⟩
end Go.Proofs.Ytllaajkpobpeiaa