/- What the document's Flip answers. -/
import Derived.Test.YtabakfhknkhdkaaFrameS
namespace Go.Proofs.Ytabakfhknkhdkaa
open Go.RowKit

/-- Each of the first k bytes with its bits turned. -/
def flD (k : Nat) (d : Nat → Int) (j : Nat) : Int := if j < k then 255 - d j else d j
theorem dflip_rtr (id n : Int) (d : Nat → Int) (w : World)  :
    Calls Try.prog 19 #[.agg #[.int .i64 id, .bool true, .int .i64 n, .int .u8 (d 0), .int .u8 (d 1), .int .u8 (d 2), .int .u8 (d 3), .int .u8 (d 4), .int .u8 (d 5), .int .u8 (d 6), .int .u8 (d 7)]] w fun e w' => e = .returned (.agg #[.int .i64 id, .bool true, .int .i64 n, .int .u8 (d 0), .int .u8 (d 1), .int .u8 (d 2), .int .u8 (d 3), .int .u8 (d 4), .int .u8 (d 5), .int .u8 (d 6), .int .u8 (d 7)]) ∧ Below w.heap.size w w' := by
  have hf : FrAt ((w.alloc (.cells #[.int .i64 id, .bool true, .int .i64 n, .int .u8 (d 0), .int .u8 (d 1), .int .u8 (d 2), .int .u8 (d 3), .int .u8 (d 4), .int .u8 (d 5), .int .u8 (d 6), .int .u8 (d 7)] 24)).alloc (.cells #[.int .i64 0, .bool false, .int .i64 0, .int .u8 0, .int .u8 0, .int .u8 0, .int .u8 0, .int .u8 0, .int .u8 0, .int .u8 0, .int .u8 0] 24)) w.heap.size id true n d := heap_alloc2_old w _ _
  have hz : FrAt ((w.alloc (.cells #[.int .i64 id, .bool true, .int .i64 n, .int .u8 (d 0), .int .u8 (d 1), .int .u8 (d 2), .int .u8 (d 3), .int .u8 (d 4), .int .u8 (d 5), .int .u8 (d 6), .int .u8 (d 7)] 24)).alloc (.cells #[.int .i64 0, .bool false, .int .i64 0, .int .u8 0, .int .u8 0, .int .u8 0, .int .u8 0, .int .u8 0, .int .u8 0, .int .u8 0, .int .u8 0] 24)) (w.heap.size + 1) 0 false 0 (fun _ => 0) := heap_alloc2_new w _ _
  have hb : Below w.heap.size w ((w.alloc (.cells #[.int .i64 id, .bool true, .int .i64 n, .int .u8 (d 0), .int .u8 (d 1), .int .u8 (d 2), .int .u8 (d 3), .int .u8 (d 4), .int .u8 (d 5), .int .u8 (d 6), .int .u8 (d 7)] 24)).alloc (.cells #[.int .i64 0, .bool false, .int .i64 0, .int .u8 0, .int .u8 0, .int .u8 0, .int .u8 0, .int .u8 0, .int .u8 0, .int .u8 0, .int .u8 0] 24)) := ((Below.refl _ _).alloc (Nat.le_refl _) _).alloc (by simp) _
  have hs : w.heap.size + 1 < ((w.alloc (.cells #[.int .i64 id, .bool true, .int .i64 n, .int .u8 (d 0), .int .u8 (d 1), .int .u8 (d 2), .int .u8 (d 3), .int .u8 (d 4), .int .u8 (d 5), .int .u8 (d 6), .int .u8 (d 7)] 24)).alloc (.cells #[.int .i64 0, .bool false, .int .i64 0, .int .u8 0, .int .u8 0, .int .u8 0, .int .u8 0, .int .u8 0, .int .u8 0, .int .u8 0, .int .u8 0] 24)).heap.size := by simp
  have HB := Lib.hid hb
  have HF := Lib.hid hf
  have HZ := Lib.hid hz
  have HS := Lib.hid hs
  clear hb hf hz hs
  have hca := fun w => dcheck_any id n true d w
  generalize chk id true n d = q at hca
  have HCA := Lib.hid hca
  clear hca
  go_enter Try.func19, Try.ntmps19
  go_wp2_with (first | (go_at_call 11; refine (HCA.out _).mono ?_; rintro e w1 ⟨rfl, hb1⟩; have hf1 := FrAt.below HF.out hb1 (Nat.lt_of_succ_lt HS.out); have hz1 := FrAt.below HZ.out hb1 HS.out; have hbw := HB.out.trans (hb1.mono HB.out.size); obtain ⟨c0, c1, c2, c3, c4, c5, c6, c7, c8, c9, c10⟩ := hf1.cells; have HF1 := Lib.hid hf1; have HZ1 := Lib.hid hz1; clear hb1 hf1 hz1) | (refine wpList_store_row rfl _ (.tmp 2) (.tmp 11) rfl (w.heap.size + 1) _ rfl rfl _ _ HZ1.out info_frame rfl (one_frame _ _ _ _) ?_; have hf4 := HZ1.out.row id n true d; have hbw4 := below_setRow hbw (show w.heap.size ≤ w.heap.size + 1 by omega) #[.int .i64 id, .bool true, .int .i64 n, .int .u8 (d 0), .int .u8 (d 1), .int .u8 (d 2), .int .u8 (d 3), .int .u8 (d 4), .int .u8 (d 5), .int .u8 (d 6), .int .u8 (d 7)]))
  all_goals exact bodyPost_ret (results_cell_row rfl _ _ (w.heap.size + 1) _ _ _ _ rfl hf4 Try.underlying24 rfl info_frame) rfl ⟨rfl, hbw4⟩
theorem dflip_no (id n : Int) (d : Nat → Int) (w : World) (hc : ¬ chk id false n d = 0) :
    Calls Try.prog 19 #[.agg #[.int .i64 id, .bool false, .int .i64 n, .int .u8 (d 0), .int .u8 (d 1), .int .u8 (d 2), .int .u8 (d 3), .int .u8 (d 4), .int .u8 (d 5), .int .u8 (d 6), .int .u8 (d 7)]] w fun e w' => e = .returned (.agg #[.int .i64 id, .bool false, .int .i64 n, .int .u8 (d 0), .int .u8 (d 1), .int .u8 (d 2), .int .u8 (d 3), .int .u8 (d 4), .int .u8 (d 5), .int .u8 (d 6), .int .u8 (d 7)]) ∧ Below w.heap.size w w' := by
  have hf : FrAt ((w.alloc (.cells #[.int .i64 id, .bool false, .int .i64 n, .int .u8 (d 0), .int .u8 (d 1), .int .u8 (d 2), .int .u8 (d 3), .int .u8 (d 4), .int .u8 (d 5), .int .u8 (d 6), .int .u8 (d 7)] 24)).alloc (.cells #[.int .i64 0, .bool false, .int .i64 0, .int .u8 0, .int .u8 0, .int .u8 0, .int .u8 0, .int .u8 0, .int .u8 0, .int .u8 0, .int .u8 0] 24)) w.heap.size id false n d := heap_alloc2_old w _ _
  have hz : FrAt ((w.alloc (.cells #[.int .i64 id, .bool false, .int .i64 n, .int .u8 (d 0), .int .u8 (d 1), .int .u8 (d 2), .int .u8 (d 3), .int .u8 (d 4), .int .u8 (d 5), .int .u8 (d 6), .int .u8 (d 7)] 24)).alloc (.cells #[.int .i64 0, .bool false, .int .i64 0, .int .u8 0, .int .u8 0, .int .u8 0, .int .u8 0, .int .u8 0, .int .u8 0, .int .u8 0, .int .u8 0] 24)) (w.heap.size + 1) 0 false 0 (fun _ => 0) := heap_alloc2_new w _ _
  have hb : Below w.heap.size w ((w.alloc (.cells #[.int .i64 id, .bool false, .int .i64 n, .int .u8 (d 0), .int .u8 (d 1), .int .u8 (d 2), .int .u8 (d 3), .int .u8 (d 4), .int .u8 (d 5), .int .u8 (d 6), .int .u8 (d 7)] 24)).alloc (.cells #[.int .i64 0, .bool false, .int .i64 0, .int .u8 0, .int .u8 0, .int .u8 0, .int .u8 0, .int .u8 0, .int .u8 0, .int .u8 0, .int .u8 0] 24)) := ((Below.refl _ _).alloc (Nat.le_refl _) _).alloc (by simp) _
  have hs : w.heap.size + 1 < ((w.alloc (.cells #[.int .i64 id, .bool false, .int .i64 n, .int .u8 (d 0), .int .u8 (d 1), .int .u8 (d 2), .int .u8 (d 3), .int .u8 (d 4), .int .u8 (d 5), .int .u8 (d 6), .int .u8 (d 7)] 24)).alloc (.cells #[.int .i64 0, .bool false, .int .i64 0, .int .u8 0, .int .u8 0, .int .u8 0, .int .u8 0, .int .u8 0, .int .u8 0, .int .u8 0, .int .u8 0] 24)).heap.size := by simp
  have HB := Lib.hid hb
  have HF := Lib.hid hf
  have HZ := Lib.hid hz
  have HS := Lib.hid hs
  clear hb hf hz hs
  have hca := fun w => dcheck_any id n false d w
  generalize chk id false n d = q at hca hc
  have HCA := Lib.hid hca
  clear hca
  go_enter Try.func19, Try.ntmps19
  go_wp2_with (first | (go_at_call 11; refine (HCA.out _).mono ?_; rintro e w1 ⟨rfl, hb1⟩; have hf1 := FrAt.below HF.out hb1 (Nat.lt_of_succ_lt HS.out); have hz1 := FrAt.below HZ.out hb1 HS.out; have hbw := HB.out.trans (hb1.mono HB.out.size); obtain ⟨c0, c1, c2, c3, c4, c5, c6, c7, c8, c9, c10⟩ := hf1.cells; have HF1 := Lib.hid hf1; have HZ1 := Lib.hid hz1; clear hb1 hf1 hz1) | (refine wpList_store_row rfl _ (.tmp 2) (.tmp 11) rfl (w.heap.size + 1) _ rfl rfl _ _ HZ1.out info_frame rfl (one_frame _ _ _ _) ?_; have hf4 := HZ1.out.row id n false d; have hbw4 := below_setRow hbw (show w.heap.size ≤ w.heap.size + 1 by omega) #[.int .i64 id, .bool false, .int .i64 n, .int .u8 (d 0), .int .u8 (d 1), .int .u8 (d 2), .int .u8 (d 3), .int .u8 (d 4), .int .u8 (d 5), .int .u8 (d 6), .int .u8 (d 7)]))
  all_goals exact bodyPost_ret (results_cell_row rfl _ _ (w.heap.size + 1) _ _ _ _ rfl hf4 Try.underlying24 rfl info_frame) rfl ⟨rfl, hbw4⟩
theorem dflip_ok (id : Int) (k : Nat) (d : Nat → Int) (w : World) (hc : chk id false k d = 0) (hd : ∀ j, j < 8 → 0 ≤ d j ∧ d j ≤ 255) :
    Calls Try.prog 19 #[.agg #[.int .i64 id, .bool false, .int .i64 (k : Int), .int .u8 (d 0), .int .u8 (d 1), .int .u8 (d 2), .int .u8 (d 3), .int .u8 (d 4), .int .u8 (d 5), .int .u8 (d 6), .int .u8 (d 7)]] w fun e w' => e = .returned (.agg #[.int .i64 id, .bool false, .int .i64 (k : Int), .int .u8 (flD k d 0), .int .u8 (flD k d 1), .int .u8 (flD k d 2), .int .u8 (flD k d 3), .int .u8 (flD k d 4), .int .u8 (flD k d 5), .int .u8 (flD k d 6), .int .u8 (flD k d 7)]) ∧ Below w.heap.size w w' := by
  have hf : FrAt ((w.alloc (.cells #[.int .i64 id, .bool false, .int .i64 (k : Int), .int .u8 (d 0), .int .u8 (d 1), .int .u8 (d 2), .int .u8 (d 3), .int .u8 (d 4), .int .u8 (d 5), .int .u8 (d 6), .int .u8 (d 7)] 24)).alloc (.cells #[.int .i64 0, .bool false, .int .i64 0, .int .u8 0, .int .u8 0, .int .u8 0, .int .u8 0, .int .u8 0, .int .u8 0, .int .u8 0, .int .u8 0] 24)) w.heap.size id false k d := heap_alloc2_old w _ _
  have hz : FrAt ((w.alloc (.cells #[.int .i64 id, .bool false, .int .i64 (k : Int), .int .u8 (d 0), .int .u8 (d 1), .int .u8 (d 2), .int .u8 (d 3), .int .u8 (d 4), .int .u8 (d 5), .int .u8 (d 6), .int .u8 (d 7)] 24)).alloc (.cells #[.int .i64 0, .bool false, .int .i64 0, .int .u8 0, .int .u8 0, .int .u8 0, .int .u8 0, .int .u8 0, .int .u8 0, .int .u8 0, .int .u8 0] 24)) (w.heap.size + 1) 0 false 0 (fun _ => 0) := heap_alloc2_new w _ _
  have hb : Below w.heap.size w ((w.alloc (.cells #[.int .i64 id, .bool false, .int .i64 (k : Int), .int .u8 (d 0), .int .u8 (d 1), .int .u8 (d 2), .int .u8 (d 3), .int .u8 (d 4), .int .u8 (d 5), .int .u8 (d 6), .int .u8 (d 7)] 24)).alloc (.cells #[.int .i64 0, .bool false, .int .i64 0, .int .u8 0, .int .u8 0, .int .u8 0, .int .u8 0, .int .u8 0, .int .u8 0, .int .u8 0, .int .u8 0] 24)) := ((Below.refl _ _).alloc (Nat.le_refl _) _).alloc (by simp) _
  have hs : w.heap.size + 1 < ((w.alloc (.cells #[.int .i64 id, .bool false, .int .i64 (k : Int), .int .u8 (d 0), .int .u8 (d 1), .int .u8 (d 2), .int .u8 (d 3), .int .u8 (d 4), .int .u8 (d 5), .int .u8 (d 6), .int .u8 (d 7)] 24)).alloc (.cells #[.int .i64 0, .bool false, .int .i64 0, .int .u8 0, .int .u8 0, .int .u8 0, .int .u8 0, .int .u8 0, .int .u8 0, .int .u8 0, .int .u8 0] 24)).heap.size := by simp
  have HB := Lib.hid hb
  have HF := Lib.hid hf
  have HZ := Lib.hid hz
  have HS := Lib.hid hs
  clear hb hf hz hs
  have hk8 : k ≤ 8 := by have := chk_len hc; omega
  have hca := fun w => dcheck_any id k false d w
  simp only [hc] at hca
  have HCA := Lib.hid hca
  have HD := Lib.hid hd
  clear hca hc hd
  go_enter Try.func19, Try.ntmps19
  go_wp2_with (go_at_call 11; refine (HCA.out _).mono ?_; rintro e w1 ⟨rfl, hb1⟩; have hf1 := FrAt.below HF.out hb1 (Nat.lt_of_succ_lt HS.out); have hz1 := FrAt.below HZ.out hb1 HS.out; have hbw := HB.out.trans (hb1.mono HB.out.size); obtain ⟨c0, c1, c2, c3, c4, c5, c6, c7, c8, c9, c10⟩ := hf1.cells; have HF1 := Lib.hid hf1; have HZ1 := Lib.hid hz1; clear hb1 hf1 hz1)
  clear c0 c1 c2 c3 c4 c5 c6 c7 c8 c9 c10
  go_loopw [3] (fun i wr => ∃ j : Nat, j ≤ k ∧ i = .int .i64 j ∧ Hid (FrAt wr w.heap.size id false k (flD j d)) ∧ Hid (FrAt wr (w.heap.size + 1) 0 false 0 (fun _ => 0)) ∧ Below w.heap.size w wr) (fun i _ => k - (intOf i).toNat)
  case atStart => exact ⟨0, Nat.zero_le _, rfl, Lib.hid (HF1.out.congr fun j _ => by simp [flD]), HZ1, hbw⟩
  case round =>
    obtain ⟨j, hj, rfl, HFr, HZr, hbel⟩ := hrel
    by_cases hlt : j < k
    · have hsl := HFr.out.byte (i := j) (by omega)
      rw [show flD j d j = d j by simp [flD]] at hsl
      have hfz := HFr.out.frozen (3 + j)
      have hset := HFr.out.set (i := j) (by omega) (255 - d j)
      have hl2 : w.heap.size + 1 ≠ w.heap.size := by omega
      obtain ⟨hd0, hd1⟩ := HD.out j (by omega)
      have hw8 := IntWalk.u8_in (255 - d j) (by omega)
      obtain ⟨c0, c1, c2, c3, c4, c5, c6, c7, c8, c9, c10⟩ := HFr.out.cells
      have HST := Lib.hid hset
      clear hset c0 c1 c3 c4 c5 c6 c7 c8 c9 c10
      go_wp2_with fail
      go_roundw
      case rel =>
        refine ⟨j + 1, by omega, by go_num, Lib.hid (HST.out.congr fun t _ => ?_), Lib.hid ?_, hbel.setCell (p := ⟨w.heap.size, 3 + j, none⟩) (Nat.le_refl _) _⟩
        · show (if t = j then 255 - d j else flD j d t) = flD (j + 1) d t
          unfold flD
          by_cases e : t = j
          · subst e; rw [if_pos rfl, if_pos (by omega)]
          · by_cases e2 : t < j
            · rw [if_neg e, if_pos e2, if_pos (by omega)]
            · rw [if_neg e, if_neg e2, if_neg (by omega)]
        · exact (setCells_grown [.int .u8 (255 - d j)] w.heap.size (3 + j) (World.grownBy.refl wr (some w.heap.size))).block (w.heap.size + 1) HZr.out.lt (by simp) |>.trans HZr.out
      case measure => simp [intOf]; omega
    · obtain rfl : j = k := by omega
      obtain ⟨c0, c1, c2, c3, c4, c5, c6, c7, c8, c9, c10⟩ := HFr.out.cells
      clear c0 c1 c3 c4 c5 c6 c7 c8 c9 c10
      go_wp2_with (first
        | (refine wpList_load_row rfl _ (.tmp 1) rfl w.heap.size rfl _ _ _ _ HFr.out Try.underlying24 rfl info_frame ?_)
        | (refine wpList_store_row rfl _ (.tmp 2) (.tmp 26) rfl (w.heap.size + 1) _ rfl rfl _ _ HZr.out info_frame rfl (one_frame id j false (flD j d)) ?_; have hf4 := HZr.out.row id j false (flD j d); have hbw4 := below_setRow hbel (show w.heap.size ≤ w.heap.size + 1 by omega) #[.int .i64 id, .bool false, .int .i64 (j : Int), .int .u8 (flD j d 0), .int .u8 (flD j d 1), .int .u8 (flD j d 2), .int .u8 (flD j d 3), .int .u8 (flD j d 4), .int .u8 (flD j d 5), .int .u8 (flD j d 6), .int .u8 (flD j d 7)]))
      all_goals exact bodyPost_ret (results_cell_row rfl _ _ (w.heap.size + 1) _ _ _ _ rfl hf4 Try.underlying24 rfl info_frame) rfl ⟨rfl, hbw4⟩
end Go.Proofs.Ytabakfhknkhdkaa
