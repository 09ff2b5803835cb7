/- pulse: live; the walk of PulseFrames. -/
import Derived.Test.YthofimkjemhnoaaPuc
import Derived.Deep.CutBlock
namespace Go.Proofs.Ythofimkjemhnoaa
open Go.RowKit
set_option linter.unusedSimpArgs false
set_option linter.unusedVariables false

theorem lv_set (w0 w : World) (q c : Nat) (h : PmAt w0 q c 0 0 0 none w) : Calls Try.prog 11 #[.pointer (some ⟨q, 0, none⟩), .int .i64 2, .int .i64 3, .int .i64 0] w fun e w' => e = .returned (.int .i64 0) ∧ PmAt w0 q c 2 3 1 (some 2) w' ∧ OthP w w' :=
  pset_ok w0 w q c 0 0 0 2 3 0 none h (by decide) (by decide) (by decide)
theorem lv_tick (w0 w : World) (q c : Nat) (h : PmAt w0 q c 2 3 1 (some 2) w) : Calls Try.prog 15 #[.pointer (some ⟨q, 0, none⟩), .int .i64 2] w fun e w' => e = .returned (.tuple #[.agg #[.int .i64 128, .bool false, .int .i64 1, .int .u8 1, .int .u8 0, .int .u8 0, .int .u8 0, .int .u8 0, .int .u8 0, .int .u8 0, .int .u8 0], .bool true]) ∧ Below w0.heap.size w0 w' := by
  refine (ptick_yes w0 w q c 2 3 1 2 2 h (by decide) (by omega) (by omega) (by omega) (by omega) (by omega)).mono ?_
  rintro e w' ⟨rfl, h1, _⟩
  exact ⟨rfl, h1.bel⟩
set_option maxRecDepth 100000 in
set_option maxHeartbeats 2000000 in
theorem live23_any (w : World) : Calls Try.prog 9 #[] w fun e w' => e = .returned (.bool true) ∧ Below w.heap.size w w' := by
  have HQ := Lib.hid (show ∀ w, (Op.equalIn 10000 24 (.agg #[.int .i64 128, .bool false, .int .i64 1, .int .u8 1, .int .u8 0, .int .u8 0, .int .u8 0, .int .u8 0, .int .u8 0, .int .u8 0, .int .u8 0]) (.agg #[.int .i64 128, .bool false, .int .i64 1, .int .u8 1, .int .u8 0, .int .u8 0, .int .u8 0, .int .u8 0, .int .u8 0, .int .u8 0, .int .u8 0])).run Try.prog w = .ok true w from fun w => (run_eq_frames w 128 128 1 1 false false (dOf [1]) (dOf [1])).trans (by simp [eqD]))
  go_enter Try.func9, Try.ntmps9
  go_upto_region 4 with (first
    | (go_at_call 10; refine (pm_new w _ (Below.refl _ _)).mono ?_; rintro e w1 ⟨q, c, rfl, hm1, hq1, hb1⟩; have HM1 := Lib.hid hm1; clear hm1 hq1 hb1)
    | (go_at_call 11; refine (lv_set w _ q c HM1.out).mono ?_; rintro e w2 ⟨rfl, hm2, ho2⟩; have HM2 := Lib.hid hm2; clear hm2 ho2)
    | (go_at_call 15; refine (lv_tick w _ q c HM2.out).mono ?_; rintro e w3 ⟨rfl, hb3⟩; have HX3 := Lib.hid (frame_new w3 0 0 false (fun _ => 0)); have HB3 := Lib.hid (below_setRow (hb3.trans ((Below.refl _ _).alloc hb3.size (.cells #[.int .i64 0, .bool false, .int .i64 0, .int .u8 0, .int .u8 0, .int .u8 0, .int .u8 0, .int .u8 0, .int .u8 0, .int .u8 0, .int .u8 0] 24))) hb3.size #[.int .i64 128, .bool false, .int .i64 1, .int .u8 1, .int .u8 0, .int .u8 0, .int .u8 0, .int .u8 0, .int .u8 0, .int .u8 0, .int .u8 0]); have HX4 := Lib.hid (show FrAt ((w3.alloc (.cells #[.int .i64 0, .bool false, .int .i64 0, .int .u8 0, .int .u8 0, .int .u8 0, .int .u8 0, .int .u8 0, .int .u8 0, .int .u8 0, .int .u8 0] 24)).setRow w3.heap.size #[.int .i64 128, .bool false, .int .i64 1, .int .u8 1, .int .u8 0, .int .u8 0, .int .u8 0, .int .u8 0, .int .u8 0, .int .u8 0, .int .u8 0]) w3.heap.size 128 false 1 (dOf [1]) from (frame_new w3 0 0 false (fun _ => 0)).row 128 1 false (dOf [1])); clear hb3)
    | (refine wpList_store_row rfl _ (.tmp 3) (.tmp 11) rfl w3.heap.size _ rfl rfl _ _ HX3.out info_frame rfl (one_frame 128 1 false (dOf [1])) ?_))
  clear HX3
  generalize (w3.alloc (.cells #[.int .i64 0, .bool false, .int .i64 0, .int .u8 0, .int .u8 0, .int .u8 0, .int .u8 0, .int .u8 0, .int .u8 0, .int .u8 0, .int .u8 0] 24)).setRow w3.heap.size #[.int .i64 128, .bool false, .int .i64 1, .int .u8 1, .int .u8 0, .int .u8 0, .int .u8 0, .int .u8 0, .int .u8 0, .int .u8 0, .int .u8 0] = w4 at *
  generalize w3.heap.size = gf at *
  obtain ⟨c0, c1, c2, c3, c4, c5, c6, c7, c8, c9, c10⟩ : w4.cell? ⟨gf, 0, none⟩ = some (.int .i64 128) ∧ w4.cell? ⟨gf, 1, none⟩ = some (.bool false) ∧ w4.cell? ⟨gf, 2, none⟩ = some (.int .i64 1) ∧ w4.cell? ⟨gf, 3, none⟩ = some (.int .u8 1) ∧ w4.cell? ⟨gf, 4, none⟩ = some (.int .u8 0) ∧ w4.cell? ⟨gf, 5, none⟩ = some (.int .u8 0) ∧ w4.cell? ⟨gf, 6, none⟩ = some (.int .u8 0) ∧ w4.cell? ⟨gf, 7, none⟩ = some (.int .u8 0) ∧ w4.cell? ⟨gf, 8, none⟩ = some (.int .u8 0) ∧ w4.cell? ⟨gf, 9, none⟩ = some (.int .u8 0) ∧ w4.cell? ⟨gf, 10, none⟩ = some (.int .u8 0) := HX4.out.cells
  have hq := HQ.out
  go_wp2_with fail
  all_goals first | (go_ret; exact ⟨rfl, HB3.out⟩) | (trace_state; sorry)
set_option maxRecDepth 100000 in
set_option maxHeartbeats 4000000 in
theorem frames_var (c o I N C E : Int) (w : World) (h1 : ∀ w, Calls Try.prog 7 #[.int .i64 c, .int .i64 o] w fun e w' => e = .returned (.tuple #[.agg #[.int .i64 I, .bool false, .int .i64 N, .int .u8 C, .int .u8 0, .int .u8 0, .int .u8 0, .int .u8 0, .int .u8 0, .int .u8 0, .int .u8 0], .int .i64 E]) ∧ Below w.heap.size w w')
    (h2 : ∀ w, Calls Try.prog 8 #[.int .i64 c, .int .i64 o] w fun e w' => e = .returned (.tuple #[.agg #[.int .i64 I, .bool false, .int .i64 N, .int .u8 C, .int .u8 0, .int .u8 0, .int .u8 0, .int .u8 0, .int .u8 0, .int .u8 0, .int .u8 0], .int .i64 E]) ∧ Below w.heap.size w w') :
    Calls Try.prog 3 #[.int .i64 c, .int .i64 o] w fun e w' => e = .returned (.bool true) ∧ Below w.heap.size w w' := by
  have HQ := Lib.hid (show ∀ w, (Op.equalIn 10000 24 (.agg #[.int .i64 I, .bool false, .int .i64 N, .int .u8 C, .int .u8 0, .int .u8 0, .int .u8 0, .int .u8 0, .int .u8 0, .int .u8 0, .int .u8 0]) (.agg #[.int .i64 I, .bool false, .int .i64 N, .int .u8 C, .int .u8 0, .int .u8 0, .int .u8 0, .int .u8 0, .int .u8 0, .int .u8 0, .int .u8 0])).run Try.prog w = .ok true w from fun w => (run_eq_frames w I I N N false false (dOf [C]) (dOf [C])).trans (by simp [eqD]))
  have H1 := Lib.hid h1
  have H2 := Lib.hid h2
  have tE : (E == E) = true := by simp
  clear h1 h2
  go_enter Try.func3, Try.ntmps3
  go_upto_region 2 with (first
    | (go_at_call 7; refine (H1.out _).mono ?_; rintro e w1 ⟨rfl, hb1⟩; have HX1 := Lib.hid (frame_new w1 0 0 false (fun _ => 0)); have HX2 := Lib.hid (show FrAt ((w1.alloc (.cells #[.int .i64 0, .bool false, .int .i64 0, .int .u8 0, .int .u8 0, .int .u8 0, .int .u8 0, .int .u8 0, .int .u8 0, .int .u8 0, .int .u8 0] 24)).setRow w1.heap.size #[.int .i64 I, .bool false, .int .i64 N, .int .u8 C, .int .u8 0, .int .u8 0, .int .u8 0, .int .u8 0, .int .u8 0, .int .u8 0, .int .u8 0]) w1.heap.size I false N (dOf [C]) from (frame_new w1 0 0 false (fun _ => 0)).row I N false (dOf [C])); have HB2 := Lib.hid (below_setRow (hb1.trans ((Below.refl _ _).alloc hb1.size (.cells #[.int .i64 0, .bool false, .int .i64 0, .int .u8 0, .int .u8 0, .int .u8 0, .int .u8 0, .int .u8 0, .int .u8 0, .int .u8 0, .int .u8 0] 24))) hb1.size #[.int .i64 I, .bool false, .int .i64 N, .int .u8 C, .int .u8 0, .int .u8 0, .int .u8 0, .int .u8 0, .int .u8 0, .int .u8 0, .int .u8 0]); clear hb1)
    | (refine wpList_store_row rfl _ (.tmp 5) (.tmp 13) rfl w1.heap.size _ rfl rfl _ _ HX1.out info_frame rfl (one_frame I N false (dOf [C])) ?_))
  clear HX1
  generalize (w1.alloc (.cells #[.int .i64 0, .bool false, .int .i64 0, .int .u8 0, .int .u8 0, .int .u8 0, .int .u8 0, .int .u8 0, .int .u8 0, .int .u8 0, .int .u8 0] 24)).setRow w1.heap.size #[.int .i64 I, .bool false, .int .i64 N, .int .u8 C, .int .u8 0, .int .u8 0, .int .u8 0, .int .u8 0, .int .u8 0, .int .u8 0, .int .u8 0] = w2 at *
  generalize w1.heap.size = g1 at *
  go_upto_region 3 with (first
    | (go_at_call 8; refine (H2.out _).mono ?_; rintro e w3 ⟨rfl, hb3⟩; have hb4 := (Below.refl w3.heap.size w3).alloc (Nat.le_refl _) (.cells #[.int .i64 0, .bool false, .int .i64 0, .int .u8 0, .int .u8 0, .int .u8 0, .int .u8 0, .int .u8 0, .int .u8 0, .int .u8 0, .int .u8 0] 24); have HX4 := Lib.hid ((HX2.out.below hb3 HX2.out.lt).below hb4 (HX2.out.below hb3 HX2.out.lt).lt |>.row_other (Nat.ne_of_lt (HX2.out.below hb3 HX2.out.lt).lt) #[.int .i64 I, .bool false, .int .i64 N, .int .u8 C, .int .u8 0, .int .u8 0, .int .u8 0, .int .u8 0, .int .u8 0, .int .u8 0, .int .u8 0]); have HB4 := Lib.hid (below_setRow ((HB2.out.trans (hb3.mono HB2.out.size)).trans (hb4.mono (HB2.out.trans (hb3.mono HB2.out.size)).size)) (HB2.out.trans (hb3.mono HB2.out.size)).size #[.int .i64 I, .bool false, .int .i64 N, .int .u8 C, .int .u8 0, .int .u8 0, .int .u8 0, .int .u8 0, .int .u8 0, .int .u8 0, .int .u8 0]); have HY3 := Lib.hid (frame_new w3 0 0 false (fun _ => 0)); have HY4 := Lib.hid (show FrAt ((w3.alloc (.cells #[.int .i64 0, .bool false, .int .i64 0, .int .u8 0, .int .u8 0, .int .u8 0, .int .u8 0, .int .u8 0, .int .u8 0, .int .u8 0, .int .u8 0] 24)).setRow w3.heap.size #[.int .i64 I, .bool false, .int .i64 N, .int .u8 C, .int .u8 0, .int .u8 0, .int .u8 0, .int .u8 0, .int .u8 0, .int .u8 0, .int .u8 0]) w3.heap.size I false N (dOf [C]) from (frame_new w3 0 0 false (fun _ => 0)).row I N false (dOf [C])); clear hb3 hb4)
    | (refine wpList_store_row rfl _ (.tmp 7) (.tmp 19) rfl w3.heap.size _ rfl rfl _ _ HY3.out info_frame rfl (one_frame I N false (dOf [C])) ?_))
  clear HY3 HX2 HB2
  generalize (w3.alloc (.cells #[.int .i64 0, .bool false, .int .i64 0, .int .u8 0, .int .u8 0, .int .u8 0, .int .u8 0, .int .u8 0, .int .u8 0, .int .u8 0, .int .u8 0] 24)).setRow w3.heap.size #[.int .i64 I, .bool false, .int .i64 N, .int .u8 C, .int .u8 0, .int .u8 0, .int .u8 0, .int .u8 0, .int .u8 0, .int .u8 0, .int .u8 0] = w4 at *
  generalize w3.heap.size = g2 at *
  go_wp2_with (go_at_call 9; refine (live23_any _).mono ?_; rintro e w5 ⟨rfl, hb5⟩; have HX5 := Lib.hid (HX4.out.below hb5 HX4.out.lt); have HY5 := Lib.hid (HY4.out.below hb5 HY4.out.lt); have HB5 := Lib.hid (HB4.out.trans (hb5.mono HB4.out.size)); clear hb5; obtain ⟨c0, c1, c2, c3, c4, c5, c6, c7, c8, c9, c10⟩ : w5.cell? ⟨g1, 0, none⟩ = some (.int .i64 I) ∧ w5.cell? ⟨g1, 1, none⟩ = some (.bool false) ∧ w5.cell? ⟨g1, 2, none⟩ = some (.int .i64 N) ∧ w5.cell? ⟨g1, 3, none⟩ = some (.int .u8 C) ∧ w5.cell? ⟨g1, 4, none⟩ = some (.int .u8 0) ∧ w5.cell? ⟨g1, 5, none⟩ = some (.int .u8 0) ∧ w5.cell? ⟨g1, 6, none⟩ = some (.int .u8 0) ∧ w5.cell? ⟨g1, 7, none⟩ = some (.int .u8 0) ∧ w5.cell? ⟨g1, 8, none⟩ = some (.int .u8 0) ∧ w5.cell? ⟨g1, 9, none⟩ = some (.int .u8 0) ∧ w5.cell? ⟨g1, 10, none⟩ = some (.int .u8 0) := HX5.out.cells; obtain ⟨d0, d1, d2, d3, d4, d5, d6, d7, d8, d9, d10⟩ : w5.cell? ⟨g2, 0, none⟩ = some (.int .i64 I) ∧ w5.cell? ⟨g2, 1, none⟩ = some (.bool false) ∧ w5.cell? ⟨g2, 2, none⟩ = some (.int .i64 N) ∧ w5.cell? ⟨g2, 3, none⟩ = some (.int .u8 C) ∧ w5.cell? ⟨g2, 4, none⟩ = some (.int .u8 0) ∧ w5.cell? ⟨g2, 5, none⟩ = some (.int .u8 0) ∧ w5.cell? ⟨g2, 6, none⟩ = some (.int .u8 0) ∧ w5.cell? ⟨g2, 7, none⟩ = some (.int .u8 0) ∧ w5.cell? ⟨g2, 8, none⟩ = some (.int .u8 0) ∧ w5.cell? ⟨g2, 9, none⟩ = some (.int .u8 0) ∧ w5.cell? ⟨g2, 10, none⟩ = some (.int .u8 0) := HY5.out.cells; have hq := HQ.out)
  all_goals first | (go_ret; exact ⟨rfl, HB5.out⟩) | (trace_state; sorry)
theorem frames_walk (c o : Int) (w : World) : Calls Try.prog 3 #[.int .i64 c, .int .i64 o] w fun e w' => e = .returned (.bool true) ∧ Below w.heap.size w w' :=
  frames_var c o _ _ _ _ w (fun w => penc_any c o w) (fun w => renc_any c o w)
end Go.Proofs.Ythofimkjemhnoaa
