/- emcy: live. -/
import Derived.Test.YtncnlbokipieaaaEi
import Derived.Deep.CutBlock
namespace Go.Proofs.Ytncnlbokipieaaa
open Go.RowKit Go.Maps
set_option linter.unusedSimpArgs false
set_option linter.unusedVariables false

theorem lv_raise (T : Nat → Prop) (w0 w : World) (g B q : Nat) (h : LgI T w0 w g B q 0 (.map []) none 0 0 5 [] [] 0) : Calls Try.prog 12 #[.pointer (some ⟨g, 0, none⟩), .int .i64 33360, .int .i64 4, .slice none 0 0] w fun e w' => e = .returned (.tuple #[.agg #[.int .i64 133, .bool false, .int .i64 8, .int .u8 80, .int .u8 130, .int .u8 17, .int .u8 0, .int .u8 0, .int .u8 0, .int .u8 0, .int .u8 0], .bool true]) ∧ ∃ T' N' c' D' A' hs' td', LgI T' w0 w' g B q N' D' A' c' 0 5 [(33360, 4)] hs' td' := by
  refine (raise_ok T w0 w g B q 0 0 (.map []) none 0 5 0 [] [] 33360 4 none 0 0 [] h (by decide) (by decide) (by decide) (by decide) (by decide) (by decide) (by decide) (by decide) (Byt.nil_ _ _)).mono ?_
  rintro e w' ⟨rfl, A', c', T', h1, _, _⟩
  have hr : rgN [(33360, 4)] 8 = 17 := by decide
  refine ⟨?_, _, _, _, _, _, _, _, h1⟩
  show Ending.returned (Value.tuple #[.agg #[.int .i64 133, .bool false, .int .i64 8, .int .u8 80, .int .u8 130, .int .u8 (rgN [(33360, 4)] 8), .int .u8 0, .int .u8 0, .int .u8 0, .int .u8 0, .int .u8 0], .bool true]) = _
  rw [hr]
set_option maxRecDepth 100000 in
set_option maxHeartbeats 4000000 in
theorem live24_any (w : World) : Calls Try.prog 10 #[] w fun e w' => e = .returned (.bool true) ∧ Below w.heap.size w w' := by
  have HQ := Lib.hid (show ∀ w, (Op.equalIn 10000 27 (.agg #[.int .i64 133, .bool false, .int .i64 8, .int .u8 80, .int .u8 130, .int .u8 17, .int .u8 0, .int .u8 0, .int .u8 0, .int .u8 0, .int .u8 0]) (.agg #[.int .i64 133, .bool false, .int .i64 8, .int .u8 80, .int .u8 130, .int .u8 17, .int .u8 0, .int .u8 0, .int .u8 0, .int .u8 0, .int .u8 0])).run Try.prog w = .ok true w from fun w => (run_eq_frames w 133 133 8 8 false false (dOf [80, 130, 17]) (dOf [80, 130, 17])).trans (by simp [eqD]))
  go_enter Try.func10, Try.ntmps10
  go_upto_region 3 with (first
    | (go_at_call 11; refine (emnew_ok w _ 5 (by decide) (Below.refl _ _)).mono ?_; rintro e w1 ⟨g, B, q, rfl, hm1, hb1⟩; have HM1 := Lib.hid hm1; clear hm1 hb1)
    | (go_at_call 12; refine (lv_raise _ w _ g B q HM1.out).mono ?_; rintro e w3 ⟨rfl, T', N', c', D', A', hs', td', hm3⟩; have HM3 := Lib.hid (hm3.below ((Below.refl w3.heap.size w3).alloc (Nat.le_refl _) (.cells #[.int .i64 0, .bool false, .int .i64 0, .int .u8 0, .int .u8 0, .int .u8 0, .int .u8 0, .int .u8 0, .int .u8 0, .int .u8 0, .int .u8 0] 27))); have HS3 := Lib.hid hm3.bel.size; have HX3 := Lib.hid (frame_new w3 0 0 false (fun _ => 0)); have HX4 := Lib.hid (show FrAt ((w3.alloc (.cells #[.int .i64 0, .bool false, .int .i64 0, .int .u8 0, .int .u8 0, .int .u8 0, .int .u8 0, .int .u8 0, .int .u8 0, .int .u8 0, .int .u8 0] 27)).setRow w3.heap.size #[.int .i64 133, .bool false, .int .i64 8, .int .u8 80, .int .u8 130, .int .u8 17, .int .u8 0, .int .u8 0, .int .u8 0, .int .u8 0, .int .u8 0]) w3.heap.size 133 false 8 (dOf [80, 130, 17]) from (frame_new w3 0 0 false (fun _ => 0)).row 133 8 false (dOf [80, 130, 17])); clear hm3)
    | (refine wpList_store_row rfl _ (.tmp 3) (.tmp 12) rfl w3.heap.size _ rfl rfl _ _ HX3.out info_frame rfl (one_frame 133 8 false (dOf [80, 130, 17])) ?_))
  have HM4 := Lib.hid (HM3.out.rowf HX3.out #[.int .i64 133, .bool false, .int .i64 8, .int .u8 80, .int .u8 130, .int .u8 17, .int .u8 0, .int .u8 0, .int .u8 0, .int .u8 0, .int .u8 0] HS3.out)
  clear HX3 HM3 HS3 HM1
  generalize (w3.alloc (.cells #[.int .i64 0, .bool false, .int .i64 0, .int .u8 0, .int .u8 0, .int .u8 0, .int .u8 0, .int .u8 0, .int .u8 0, .int .u8 0, .int .u8 0] 27)).setRow w3.heap.size #[.int .i64 133, .bool false, .int .i64 8, .int .u8 80, .int .u8 130, .int .u8 17, .int .u8 0, .int .u8 0, .int .u8 0, .int .u8 0, .int .u8 0] = w4 at *
  generalize w3.heap.size = gf at *
  obtain ⟨c0, c1, c2, c3, c4, c5, c6, c7, c8, c9, c10⟩ : w4.cell? ⟨gf, 0, none⟩ = some (.int .i64 133) ∧ w4.cell? ⟨gf, 1, none⟩ = some (.bool false) ∧ w4.cell? ⟨gf, 2, none⟩ = some (.int .i64 8) ∧ w4.cell? ⟨gf, 3, none⟩ = some (.int .u8 80) ∧ w4.cell? ⟨gf, 4, none⟩ = some (.int .u8 130) ∧ w4.cell? ⟨gf, 5, none⟩ = some (.int .u8 17) ∧ w4.cell? ⟨gf, 6, none⟩ = some (.int .u8 0) ∧ w4.cell? ⟨gf, 7, none⟩ = some (.int .u8 0) ∧ w4.cell? ⟨gf, 8, none⟩ = some (.int .u8 0) ∧ w4.cell? ⟨gf, 9, none⟩ = some (.int .u8 0) ∧ w4.cell? ⟨gf, 10, none⟩ = some (.int .u8 0) := HX4.out.cells
  have hq := HQ.out
  go_wp2_with (go_at_call 15; refine (has_in T' w _ g B q N' c' D' A' 0 5 td' 33360 [(33360, 4)] hs' HM4.out (by decide)).mono ?_; rintro e w5 ⟨rfl, rfl⟩)
  all_goals first | exact bodyPost_ret (results_tmp rfl _ _ _) rfl ⟨by rfl, HM4.out.bel⟩ | (trace_state; sorry)
end Go.Proofs.Ytncnlbokipieaaa
