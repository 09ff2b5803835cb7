/- nmt: an order's frame, and the order of a frame. -/
import Derived.Test.YtnijdcbpllmieaaNa
import Derived.IntWalk
namespace Go.Proofs.Ytnijdcbpllmieaa
open Go.RowKit
set_option linter.unusedSimpArgs false
set_option linter.unusedVariables false

def OrAt (w : World) (g : Nat) (v n : Int) : Prop := w.heap[g]? = some (.cells #[.int .i64 v, .int .i64 n] 24 (0, 0))
theorem OrAt.lt {w : World} {g : Nat} {v n : Int} (h : OrAt w g v n) : g < w.heap.size := (Array.getElem?_eq_some_iff.1 h).1
theorem OrAt.cells {w : World} {g : Nat} {v n : Int} (h : OrAt w g v n) : w.cell? ⟨g, 0, none⟩ = some (.int .i64 v) ∧ w.cell? ⟨g, 1, none⟩ = some (.int .i64 n) := by
  constructor <;> (rw [cell_of_row _ _ _ _ _ _ h]; rfl)
theorem OrAt.below {B g : Nat} {w w' : World} {v n : Int} (h : OrAt w g v n) (hb : Below B w w') (hg : g < B) : OrAt w' g v n := (hb.block g hg).trans h
theorem OrAt.row {w : World} {g : Nat} {v n : Int} (h : OrAt w g v n) (v' n' : Int) : OrAt (w.setRow g #[.int .i64 v', .int .i64 n']) g v' n' := setRow_heap _ _ _ _ _ (0, 0) h
theorem OrAt.row_other {w : World} {g g' : Nat} {v n : Int} (h : OrAt w g v n) (hne : g ≠ g') (cs : Array Value) : OrAt (w.setRow g' cs) g v n := (setRow_other w g' g cs hne).trans h
theorem info_order : (Try.prog.info? 24).map (·.size) = some 2 := by kernel_rfl
theorem one_order (v n : Int) : (#[.int .i64 v, .int .i64 n] : Array Value).all (·.oneCell') = true := by simp [Value.oneCell']
theorem or_new (w : World) (v n : Int) : OrAt (w.alloc (.cells #[.int .i64 v, .int .i64 n] 24)) w.heap.size v n := heap_alloc_new w _
theorem chk_two (v n : Int) : chk 0 false 2 (dOf [v, n]) = 0 := by
  simp [chk, eqD, cut, kOf, dOf]
theorem new_two (v n : Int) (w : World) (A : Option Addr) (c : Nat) (h : Byt w w.heap.size A 2 c [v, n]) : Calls Try.prog 24 #[.int .i64 0, .slice A 2 c] w fun e w' => e = .returned (.tuple #[.agg #[.int .i64 0, .bool false, .int .i64 2, .int .u8 v, .int .u8 n, .int .u8 0, .int .u8 0, .int .u8 0, .int .u8 0, .int .u8 0, .int .u8 0], .int .i64 0]) ∧ Below w.heap.size w w' := new_ok 0 A 2 c [v, n] w h (chk_two v n)

theorem encode_yes (v n : Int) (w : World) (h : mayO v n = true) :
    Calls Try.prog 7 #[.agg #[.int .i64 v, .int .i64 n]] w fun e w' => e = .returned (.tuple #[.agg #[.int .i64 0, .bool false, .int .i64 2, .int .u8 v, .int .u8 n, .int .u8 0, .int .u8 0, .int .u8 0, .int .u8 0, .int .u8 0, .int .u8 0], .int .i64 0]) ∧ Below w.heap.size w w' := by
  have hm := may_any v n
  rw [h] at hm
  obtain ⟨hv, hn0, hn1⟩ := mayO_yes h
  have hv0 : 0 ≤ v := by omega
  have hv1 : v ≤ 255 := by omega
  have wv : IntKind.u8.wrap v = v := IntWalk.u8_in v ⟨hv0, hv1⟩
  have wn : IntKind.u8.wrap n = n := IntWalk.u8_in n ⟨hn0, by omega⟩
  have ho : OrAt ((w.alloc (.cells #[.int .i64 v, .int .i64 n] 24)).alloc (.cells #[.int .i64 0, .bool false, .int .i64 0, .int .u8 0, .int .u8 0, .int .u8 0, .int .u8 0, .int .u8 0, .int .u8 0, .int .u8 0, .int .u8 0] 27)) w.heap.size v n := heap_alloc2_old w _ _
  have hf : FrAt ((w.alloc (.cells #[.int .i64 v, .int .i64 n] 24)).alloc (.cells #[.int .i64 0, .bool false, .int .i64 0, .int .u8 0, .int .u8 0, .int .u8 0, .int .u8 0, .int .u8 0, .int .u8 0, .int .u8 0, .int .u8 0] 27)) (w.heap.size + 1) 0 false 0 (fun _ => 0) := heap_alloc2_new w _ _
  have hb : Below w.heap.size w ((w.alloc (.cells #[.int .i64 v, .int .i64 n] 24)).alloc (.cells #[.int .i64 0, .bool false, .int .i64 0, .int .u8 0, .int .u8 0, .int .u8 0, .int .u8 0, .int .u8 0, .int .u8 0, .int .u8 0, .int .u8 0] 27)) := ((Below.refl _ _).alloc (Nat.le_refl _) _).alloc (by simp) _
  have HM := Lib.hid hm
  have HO := Lib.hid ho
  have HF := Lib.hid hf
  have HB := Lib.hid hb
  have HBY := Lib.hid (fun (x : World) => show Byt (x.alloc (.cells #[.int .u8 v, .int .u8 n] 5)) (x.alloc (.cells #[.int .u8 v, .int .u8 n] 5)).heap.size (some ⟨x.heap.size, 0, none⟩) 2 2 [v, n] from (Byt.new x 5 [v, n] (by intro y hy; simp at hy; omega) (by simp [maxLen])).more (by simp))
  clear hm h hv ho hf hb hv0 hv1 hn0 hn1
  go_enter Try.func7, Try.ntmps7
  go_wp2_with (first
    | (go_at_call 23; refine (HM.out _).mono ?_; rintro e w1 ⟨rfl, hb1⟩; have hf1 := FrAt.below HF.out hb1 HF.out.lt; have ho1 := OrAt.below HO.out hb1 HO.out.lt; have hbw1 := HB.out.trans (hb1.mono HB.out.size); obtain ⟨c0, c1⟩ := ho1.cells; have HF1 := Lib.hid hf1; have HB1 := Lib.hid hbw1; clear hb1 hf1 ho1 hbw1)
    | (go_at_call 24; refine (new_two _ _ _ _ _ (HBY.out _)).mono ?_; rintro e w2 ⟨rfl, hb2⟩; have hba : Below w1.heap.size w1 (w1.alloc (.cells #[.int .u8 v, .int .u8 n] 5)) := (Below.refl _ _).alloc (Nat.le_refl _) _; have hb3 : Below w1.heap.size w1 w2 := hba.trans (hb2.mono hba.size); have hf2 := FrAt.below HF1.out hb3 HF1.out.lt; have hbw2 := HB1.out.trans (hb3.mono HB1.out.size); have hf3 := hf2.row 0 2 false (dOf [v, n]); have hbw3 := below_setRow hbw2 (show w.heap.size ≤ w.heap.size + 1 by omega) #[.int .i64 0, .bool false, .int .i64 2, .int .u8 v, .int .u8 n, .int .u8 0, .int .u8 0, .int .u8 0, .int .u8 0, .int .u8 0, .int .u8 0]; have HF2 := Lib.hid hf2; have HF3 := Lib.hid hf3; have HB3 := Lib.hid hbw3; clear hb2 hba hb3 hf2 hbw2 hf3 hbw3 c0 c1)
    | (refine wpList_store_row rfl _ (.tmp 2) (.tmp 16) rfl (w.heap.size + 1) _ rfl rfl _ _ HF2.out info_frame rfl (one_frame 0 2 false (dOf [v, n])) ?_))
  all_goals first | (exfalso; omega) | exact bodyPost_ret (results_cell_tmp_row rfl _ _ (w.heap.size + 1) _ _ _ _ rfl HF3.out Try.underlying27 rfl info_frame) rfl ⟨rfl, HB3.out⟩
theorem encode_no (v n : Int) (w : World) (h : mayO v n = false) :
    Calls Try.prog 7 #[.agg #[.int .i64 v, .int .i64 n]] w fun e w' => e = .returned (.tuple #[.agg #[.int .i64 0, .bool false, .int .i64 0, .int .u8 0, .int .u8 0, .int .u8 0, .int .u8 0, .int .u8 0, .int .u8 0, .int .u8 0, .int .u8 0], .int .i64 2]) ∧ Below w.heap.size w w' := by
  have hm := may_any v n
  rw [h] at hm
  have hf : FrAt ((w.alloc (.cells #[.int .i64 v, .int .i64 n] 24)).alloc (.cells #[.int .i64 0, .bool false, .int .i64 0, .int .u8 0, .int .u8 0, .int .u8 0, .int .u8 0, .int .u8 0, .int .u8 0, .int .u8 0, .int .u8 0] 27)) (w.heap.size + 1) 0 false 0 (fun _ => 0) := heap_alloc2_new w _ _
  have hb : Below w.heap.size w ((w.alloc (.cells #[.int .i64 v, .int .i64 n] 24)).alloc (.cells #[.int .i64 0, .bool false, .int .i64 0, .int .u8 0, .int .u8 0, .int .u8 0, .int .u8 0, .int .u8 0, .int .u8 0, .int .u8 0, .int .u8 0] 27)) := ((Below.refl _ _).alloc (Nat.le_refl _) _).alloc (by simp) _
  have HM := Lib.hid hm
  have HF := Lib.hid hf
  have HB := Lib.hid hb
  clear hm h hf hb
  go_enter Try.func7, Try.ntmps7
  go_wp2_with (first
    | (go_at_call 23; refine (HM.out _).mono ?_; rintro e w1 ⟨rfl, hb1⟩; have hf1 := FrAt.below HF.out hb1 HF.out.lt; have hbw1 := HB.out.trans (hb1.mono HB.out.size); have hf3 := hf1.row 0 0 false (fun _ => 0); have hbw3 := below_setRow hbw1 (show w.heap.size ≤ w.heap.size + 1 by omega) #[.int .i64 0, .bool false, .int .i64 0, .int .u8 0, .int .u8 0, .int .u8 0, .int .u8 0, .int .u8 0, .int .u8 0, .int .u8 0, .int .u8 0]; have HF2 := Lib.hid hf1; have HF3 := Lib.hid hf3; have HB3 := Lib.hid hbw3; clear hb1 hf1 hbw1 hf3 hbw3)
    | (refine wpList_store_row rfl _ (.tmp 2) (.tmp 7) rfl (w.heap.size + 1) _ rfl rfl _ _ HF2.out info_frame rfl (one_frame 0 0 false (fun _ => 0)) ?_))
  all_goals first | (exfalso; omega) | exact bodyPost_ret (results_cell_tmp_row rfl _ _ (w.heap.size + 1) _ _ _ _ rfl HF3.out Try.underlying27 rfl info_frame) rfl ⟨rfl, HB3.out⟩
theorem rencode_any (v n : Int) (w : World) (h : mayO v n = true) :
    Calls Try.prog 10 #[.agg #[.int .i64 v, .int .i64 n]] w fun e w' => e = .returned (.agg #[.int .i64 0, .bool false, .int .i64 2, .int .u8 v, .int .u8 n, .int .u8 0, .int .u8 0, .int .u8 0, .int .u8 0, .int .u8 0, .int .u8 0]) ∧ Below w.heap.size w w' := by
  obtain ⟨hv, hn0, hn1⟩ := mayO_yes h
  have hv0 : 0 ≤ v := by omega
  have hv1 : v ≤ 255 := by omega
  have wv : IntKind.u8.wrap v = v := IntWalk.u8_in v ⟨hv0, hv1⟩
  have wn : IntKind.u8.wrap n = n := IntWalk.u8_in n ⟨hn0, by omega⟩
  clear h hv hv0 hv1 hn0 hn1
  go_enter Try.func10, Try.ntmps10
  go_wp2_with fail
  exact bodyPost_ret (results_cell_row rfl _ _ (w.heap.size + 1) _ _ _ _ rfl ((heap_alloc_old _ _ _ (by simp)).trans (heap_alloc2_new w _ _)) Try.underlying27 rfl info_frame) rfl ⟨rfl, by go_grown⟩
end Go.Proofs.Ytnijdcbpllmieaa
