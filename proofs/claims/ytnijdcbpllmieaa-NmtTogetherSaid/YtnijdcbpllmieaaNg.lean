/- nmt: live. -/
import Derived.Test.YtnijdcbpllmieaaNf
namespace Go.Proofs.Ytnijdcbpllmieaa
open Go.RowKit
set_option linter.unusedSimpArgs false
set_option linter.unusedVariables false

theorem FrAt.gb {w w' : World} {g g' : Nat} {id n : Int} {r : Bool} {d : Nat → Int} (h : FrAt w g id r n d) (hb : w.grownBy w' (some g')) (hne : g ≠ g') : FrAt w' g id r n d := (hb.block g h.lt (by simpa using hne)).trans h
theorem OrAt.gb {w w' : World} {g g' : Nat} {v n : Int} (h : OrAt w g v n) (hb : w.grownBy w' (some g')) (hne : g ≠ g') : OrAt w' g v n := (hb.block g h.lt (by simpa using hne)).trans h
theorem Below.gb {B g : Nat} {w0 w w' : World} (h : Below B w0 w) (hb : w.grownBy w' (some g)) (hg : B ≤ g) (hs : B ≤ w.heap.size) : Below B w0 w' := below_grown h hb hg hs
set_option maxRecDepth 100000 in
set_option maxHeartbeats 2000000 in
theorem live21_any (w : World) : Calls Try.prog 12 #[] w fun e w' => e = .returned (.bool true) ∧ Below w.heap.size w w' := by
  have HE := Lib.hid (fun w => encode_yes 1 5 w (by decide))
  have HN := Lib.hid (fun w => mnew_ok 5 w (by omega) (by omega))
  have hq : ∀ w, (Op.equalIn 10000 27 (.agg #[.int .i64 0, .bool false, .int .i64 2, .int .u8 1, .int .u8 5, .int .u8 0, .int .u8 0, .int .u8 0, .int .u8 0, .int .u8 0, .int .u8 0]) (.agg #[.int .i64 0, .bool false, .int .i64 2, .int .u8 1, .int .u8 5, .int .u8 0, .int .u8 0, .int .u8 0, .int .u8 0, .int .u8 0, .int .u8 0])).run Try.prog w = .ok true w := fun w => (run_eq_frames w 0 0 2 2 false false (dOf [1, 5]) (dOf [1, 5])).trans (by simp [eqD])
  go_enter Try.func12, Try.ntmps12
  go_upto_region 2 with (first
    | (go_at_call 7; refine (HE.out _).mono ?_; rintro e w1 ⟨rfl, hb1⟩; have hx3 : FrAt (w1.alloc (.cells #[.int .i64 0, .bool false, .int .i64 0, .int .u8 0, .int .u8 0, .int .u8 0, .int .u8 0, .int .u8 0, .int .u8 0, .int .u8 0, .int .u8 0] 27)) w1.heap.size 0 false 0 (fun _ => 0) := frame_new w1 0 0 false (fun _ => 0); have HX3 := Lib.hid hx3; have HX4 := Lib.hid (show FrAt ((w1.alloc (.cells #[.int .i64 0, .bool false, .int .i64 0, .int .u8 0, .int .u8 0, .int .u8 0, .int .u8 0, .int .u8 0, .int .u8 0, .int .u8 0, .int .u8 0] 27)).setRow w1.heap.size #[.int .i64 0, .bool false, .int .i64 2, .int .u8 1, .int .u8 5, .int .u8 0, .int .u8 0, .int .u8 0, .int .u8 0, .int .u8 0, .int .u8 0]) w1.heap.size 0 false 2 (dOf [1, 5]) from hx3.row 0 2 false (dOf [1, 5])); have HB4 := Lib.hid (below_setRow (hb1.alloc hb1.size (.cells #[.int .i64 0, .bool false, .int .i64 0, .int .u8 0, .int .u8 0, .int .u8 0, .int .u8 0, .int .u8 0, .int .u8 0, .int .u8 0, .int .u8 0] 27)) hb1.size #[.int .i64 0, .bool false, .int .i64 2, .int .u8 1, .int .u8 5, .int .u8 0, .int .u8 0, .int .u8 0, .int .u8 0, .int .u8 0, .int .u8 0]); have HS := Lib.hid hb1.size; clear hx3 hb1)
    | (refine wpList_store_row rfl _ (.tmp 1) (.tmp 11) rfl w1.heap.size _ rfl rfl _ _ HX3.out info_frame rfl (one_frame 0 2 false (dOf [1, 5])) ?_))
  clear HX3
  generalize (w1.alloc (.cells #[.int .i64 0, .bool false, .int .i64 0, .int .u8 0, .int .u8 0, .int .u8 0, .int .u8 0, .int .u8 0, .int .u8 0, .int .u8 0, .int .u8 0] 27)).setRow w1.heap.size #[.int .i64 0, .bool false, .int .i64 2, .int .u8 1, .int .u8 5, .int .u8 0, .int .u8 0, .int .u8 0, .int .u8 0, .int .u8 0, .int .u8 0] = w2 at HX4 HB4 ⊢
  generalize w1.heap.size = gf at *
  clear w1 HE
  go_upto_region 3 with (go_at_call 13; refine (HN.out _).mono ?_; rintro e w3 ⟨rfl, rfl⟩)
  have HM := Lib.hid (ma_new w2 5 0)
  have hba : Below w2.heap.size w2 (w2.alloc (.cells #[.int .i64 5, .int .i64 0] 61)) := (Below.refl _ _).alloc (Nat.le_refl _) _
  have HF := Lib.hid (HX4.out.below hba HX4.out.lt)
  have HB := Lib.hid (HB4.out.trans (hba.mono HB4.out.size))
  have HG := Lib.hid (show gf ≠ w2.heap.size from Nat.ne_of_lt HX4.out.lt)
  have HZ := Lib.hid HB4.out.size
  clear hba HX4 HB4 HN
  generalize w2.alloc (.cells #[.int .i64 5, .int .i64 0] 61) = w3 at HM HF HB ⊢
  generalize w2.heap.size = gm at *
  clear w2
  go_upto_region 4 with (first
    | (go_at_call 15; refine (boot_yes _ _ _ HM1.out).mono ?_; rintro e w5 ⟨rfl, rfl⟩; have HM2 := Lib.hid (HM1.out.set 127); have HF2 := Lib.hid (HF1.out.gb (gb_set w4 gm 1 (.int .i64 127)) HG.out); have HB2 := Lib.hid (Below.gb HB1.out (gb_set w4 gm 1 (.int .i64 127)) HZ.out HB1.out.size); have HO := Lib.hid (obey_own (w4.setCell ⟨gm, 1, none⟩ (.int .i64 127)) gm 5 127 1 5 HM2.out (by omega) (by decide) (by omega) rfl))
    | (go_at_call 16; refine (obey_boot _ gm 5 0 2 0 HM.out rfl).mono ?_; rintro e w4 ⟨rfl, hb4⟩; have HM1 := Lib.hid (HM.out.below hb4 HM.out.lt); have HF1 := Lib.hid (HF.out.below hb4 HF.out.lt); have HB1 := Lib.hid (HB.out.trans (hb4.mono HB.out.size)); clear hb4 HM HF HB)
    | (go_at_call 16; refine HO.out.mono ?_; rintro e w6 ⟨rfl, hm6, hg6⟩; have HF3 := Lib.hid (HF2.out.gb hg6 HG.out); have HM3 := Lib.hid hm6; have HB3 := Lib.hid (Below.gb HB2.out hg6 HZ.out HB2.out.size); clear hm6 hg6))
  clear HO HF2 HB2 HM2 HM1 HF1 HB1
  obtain ⟨c0, c1, c2, c3, c4, c5, c6, c7, c8, c9, c10⟩ : w6.cell? ⟨gf, 0, none⟩ = some (.int .i64 0) ∧ w6.cell? ⟨gf, 1, none⟩ = some (.bool false) ∧ w6.cell? ⟨gf, 2, none⟩ = some (.int .i64 2) ∧ w6.cell? ⟨gf, 3, none⟩ = some (.int .u8 1) ∧ w6.cell? ⟨gf, 4, none⟩ = some (.int .u8 5) ∧ w6.cell? ⟨gf, 5, none⟩ = some (.int .u8 0) ∧ w6.cell? ⟨gf, 6, none⟩ = some (.int .u8 0) ∧ w6.cell? ⟨gf, 7, none⟩ = some (.int .u8 0) ∧ w6.cell? ⟨gf, 8, none⟩ = some (.int .u8 0) ∧ w6.cell? ⟨gf, 9, none⟩ = some (.int .u8 0) ∧ w6.cell? ⟨gf, 10, none⟩ = some (.int .u8 0) := HF3.out.cells
  go_wp2_with (go_at_call 17; refine (mode_any _ _ _ _ HM3.out).mono ?_; rintro e w7 ⟨rfl, rfl⟩)
  all_goals first | (go_ret; exact ⟨rfl, HB3.out⟩) | (trace_state; sorry)
end Go.Proofs.Ytnijdcbpllmieaa
