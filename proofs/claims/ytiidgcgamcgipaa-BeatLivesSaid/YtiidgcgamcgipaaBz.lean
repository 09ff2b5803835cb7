/- beat: live. -/
import Derived.Test.YtiidgcgamcgipaaBy
namespace Go.Proofs.Ytiidgcgamcgipaa
open Go.RowKit
set_option linter.unusedSimpArgs false
set_option linter.unusedVariables false

theorem held_event : Try.prog.stoodInHeld 57 = false := by kernel_rfl
theorem und_event : Try.prog.underlying 57 = some (.struct (Try.prog.fieldsOf 57)) := by kernel_rfl
theorem fields_event : (Try.prog.fieldsOf 57).toList = [⟨"Kind", 55, 0, false, "", "", 0⟩, ⟨"Node", 3, 1, false, "", "", 8⟩, ⟨"Mode", 28, 2, false, "", "", 16⟩] := by kernel_rfl
theorem part_kind (w : World) (cs : Array Value) (o : Nat) (v : Value) (h : cs[o]? = some v) : (part 55 cs o).run Try.prog w = .ok v w := run_part_plain w (by kernel_rfl) h
theorem part_mode (w : World) (cs : Array Value) (o : Nat) (v : Value) (h : cs[o]? = some v) : (part 28 cs o).run Try.prog w = .ok v w := run_part_plain w (by kernel_rfl) h
theorem run_eq_events (w : World) (k n m k' n' m' : Int) : (Op.equalIn 10000 57 (.agg #[.int .i64 k, .int .i64 n, .int .i64 m]) (.agg #[.int .i64 k', .int .i64 n', .int .i64 m'])).run Try.prog w = .ok (decide (k = k' ∧ n = n' ∧ m = m')) w := by
  rw [run_equalIn_struct w 9999 57 _ _ und_event held_event, fields_event]
  simp [Op.eqFields, Sem.run_bind, part_int, part_kind, part_mode, run_equalIn_int w 9998 3 _ _ _ _ Try.underlying3, run_equalIn_int w 9998 55 _ _ _ _ Try.underlying55, run_equalIn_int w 9998 28 _ _ _ _ Try.underlying28, Sem.run_ite, Result.andThen_ok]
  (repeat' split) <;> simp_all
theorem lv_enc (w : World) : Calls Try.prog 7 #[.int .i64 3, .int .i64 5] w fun e w' => e = .returned (.tuple #[.agg #[.int .i64 1795, .bool false, .int .i64 1, .int .u8 5, .int .u8 0, .int .u8 0, .int .u8 0, .int .u8 0, .int .u8 0, .int .u8 0, .int .u8 0], .int .i64 0]) ∧ Below w.heap.size w w' := by
  have h := bencode_yes 3 5 w (by decide) (by decide)
  rw [show (1792 : Int) + 3 = 1795 from rfl] at h
  exact h
theorem lv_dec : decB 1795 false 1 (dOf [5]) = true := (decB_iff 1795 1 false (dOf [5])).2 ⟨by decide, rfl, rfl, by omega, by omega, by decide⟩
theorem lv_rng : ∀ j, j < 8 → 0 ≤ dOf [5] j ∧ dOf [5] j ≤ 255 := by decide
theorem lv_hear (w0 w : World) (g a b c s : Nat) (h : WaG w0 g a b c s [(3, 10)] [] [] w) : Calls Try.prog 20 #[.pointer (some ⟨g, 0, none⟩), .agg #[.int .i64 1795, .bool false, .int .i64 1, .int .u8 5, .int .u8 0, .int .u8 0, .int .u8 0, .int .u8 0, .int .u8 0, .int .u8 0, .int .u8 0], .int .i64 5] w fun e w' => e = .returned (.tuple #[.agg #[.int .i64 2, .int .i64 3, .int .i64 5], .bool true]) ∧ (∃ M R, WaG w0 g a b c s [(3, 10)] M R w') ∧ OthW w w' := by
  refine (hear_yes w0 w g a b c s [(3, 10)] [] [] 1795 1 5 false (dOf [5]) lv_rng h (by decide) lv_dec (by decide) 3 10 2 (by decide) (by decide) (by decide) (by decide) (by decide) (by decide) (by omega) (by omega)).mono ?_
  rintro e w' ⟨rfl, h1, h2⟩
  exact ⟨rfl, ⟨_, _, h1⟩, h2⟩
set_option maxRecDepth 100000 in
set_option maxHeartbeats 2000000 in
theorem live22_any (w : World) : Calls Try.prog 12 #[] w fun e w' => e = .returned (.bool true) ∧ Below w.heap.size w w' := by
  have hq : ∀ w, (Op.equalIn 10000 24 (.agg #[.int .i64 1795, .bool false, .int .i64 1, .int .u8 5, .int .u8 0, .int .u8 0, .int .u8 0, .int .u8 0, .int .u8 0, .int .u8 0, .int .u8 0]) (.agg #[.int .i64 1795, .bool false, .int .i64 1, .int .u8 5, .int .u8 0, .int .u8 0, .int .u8 0, .int .u8 0, .int .u8 0, .int .u8 0, .int .u8 0])).run Try.prog w = .ok true w := fun w => (run_eq_frames w 1795 1795 1 1 false false (dOf [5]) (dOf [5])).trans (by simp [eqD])
  have hq2 : ∀ w, (Op.equalIn 10000 57 (.agg #[.int .i64 2, .int .i64 3, .int .i64 5]) (.agg #[.int .i64 2, .int .i64 3, .int .i64 5])).run Try.prog w = .ok true w := fun w => (run_eq_events w 2 3 5 2 3 5).trans (by simp)
  have HQ := Lib.hid hq
  have HQ2 := Lib.hid hq2
  clear hq hq2
  go_enter Try.func12, Try.ntmps12
  go_upto_region 2 with (first
    | (go_at_call 7; refine (lv_enc _).mono ?_; rintro e w1 ⟨rfl, hb1⟩; have hx3 : FrAt (w1.alloc (.cells #[.int .i64 0, .bool false, .int .i64 0, .int .u8 0, .int .u8 0, .int .u8 0, .int .u8 0, .int .u8 0, .int .u8 0, .int .u8 0, .int .u8 0] 24)) w1.heap.size 0 false 0 (fun _ => 0) := frame_new w1 0 0 false (fun _ => 0); have HX3 := Lib.hid hx3; have HX4 := Lib.hid (show FrAt ((w1.alloc (.cells #[.int .i64 0, .bool false, .int .i64 0, .int .u8 0, .int .u8 0, .int .u8 0, .int .u8 0, .int .u8 0, .int .u8 0, .int .u8 0, .int .u8 0] 24)).setRow w1.heap.size #[.int .i64 1795, .bool false, .int .i64 1, .int .u8 5, .int .u8 0, .int .u8 0, .int .u8 0, .int .u8 0, .int .u8 0, .int .u8 0, .int .u8 0]) w1.heap.size 1795 false 1 (dOf [5]) from hx3.row 1795 1 false (dOf [5])); have HB4 := Lib.hid (below_setRow (hb1.alloc hb1.size (.cells #[.int .i64 0, .bool false, .int .i64 0, .int .u8 0, .int .u8 0, .int .u8 0, .int .u8 0, .int .u8 0, .int .u8 0, .int .u8 0, .int .u8 0] 24)) hb1.size #[.int .i64 1795, .bool false, .int .i64 1, .int .u8 5, .int .u8 0, .int .u8 0, .int .u8 0, .int .u8 0, .int .u8 0, .int .u8 0, .int .u8 0]); clear hx3 hb1)
    | (refine wpList_store_row rfl _ (.tmp 1) (.tmp 9) rfl w1.heap.size _ rfl rfl _ _ HX3.out info_frame rfl (one_frame 1795 1 false (dOf [5])) ?_))
  clear HX3
  generalize (w1.alloc (.cells #[.int .i64 0, .bool false, .int .i64 0, .int .u8 0, .int .u8 0, .int .u8 0, .int .u8 0, .int .u8 0, .int .u8 0, .int .u8 0, .int .u8 0] 24)).setRow w1.heap.size #[.int .i64 1795, .bool false, .int .i64 1, .int .u8 5, .int .u8 0, .int .u8 0, .int .u8 0, .int .u8 0, .int .u8 0, .int .u8 0, .int .u8 0] = w2 at HX4 HB4 ⊢
  generalize w1.heap.size = gf at *
  clear w1
  go_wp2_with fail
  refine (wa_new w w2 HB4.out).mono ?_
  rintro e w3 ⟨g, a, b, c, s, rfl, h3, hg, hb3⟩
  have HX5 := Lib.hid (HX4.out.below hb3 HX4.out.lt)
  have HW3 := Lib.hid h3
  clear hb3 hg h3 HX4 HB4
  go_wp2_with fail
  refine (wset_ok w w3 g a b c s [] [] [] 3 10 HW3.out (by decide) (by decide) (by decide) (by decide) (by decide)).mono ?_
  rintro e w4 ⟨rfl, h4, o4⟩
  have HX6 := Lib.hid (HX5.out.oth o4)
  have HW4 := Lib.hid (show WaG w g a b c s [(3, 10)] [] [] w4 from h4)
  clear h4 o4 HX5 HW3
  obtain ⟨c0, c1, c2, c3, c4, c5, c6, c7, c8, c9, c10⟩ : w4.cell? ⟨gf, 0, none⟩ = some (.int .i64 1795) ∧ w4.cell? ⟨gf, 1, none⟩ = some (.bool false) ∧ w4.cell? ⟨gf, 2, none⟩ = some (.int .i64 1) ∧ w4.cell? ⟨gf, 3, none⟩ = some (.int .u8 5) ∧ w4.cell? ⟨gf, 4, none⟩ = some (.int .u8 0) ∧ w4.cell? ⟨gf, 5, none⟩ = some (.int .u8 0) ∧ w4.cell? ⟨gf, 6, none⟩ = some (.int .u8 0) ∧ w4.cell? ⟨gf, 7, none⟩ = some (.int .u8 0) ∧ w4.cell? ⟨gf, 8, none⟩ = some (.int .u8 0) ∧ w4.cell? ⟨gf, 9, none⟩ = some (.int .u8 0) ∧ w4.cell? ⟨gf, 10, none⟩ = some (.int .u8 0) := HX6.out.cells
  go_wp2_with fail
  refine (lv_hear w w4 g a b c s HW4.out).mono ?_
  rintro e w5 ⟨rfl, ⟨M, R, h5⟩, o5⟩
  have HX7 := Lib.hid (HX6.out.oth o5)
  have HB5 := Lib.hid h5.bel
  have hba : Below w5.heap.size w5 (w5.alloc (.cells #[.int .i64 2, .int .i64 3, .int .i64 5] 57)) := (Below.refl _ _).alloc (Nat.le_refl _) _
  have HX8 := Lib.hid (HX7.out.below hba HX7.out.lt)
  have HV8 := Lib.hid (show EvAt (w5.alloc (.cells #[.int .i64 2, .int .i64 3, .int .i64 5] 57)) w5.heap.size 2 3 5 from heap_alloc_new w5 _)
  have HB8 := Lib.hid (HB5.out.trans (hba.mono HB5.out.size))
  clear h5 o5 hba c0 c1 c2 c3 c4 c5 c6 c7 c8 c9 c10 HX6 HX7 HB5 HW4
  go_upto_region 5 with fail
  generalize w5.alloc (.cells #[.int .i64 2, .int .i64 3, .int .i64 5] 57) = w8 at *
  generalize w5.heap.size = ge at *
  obtain ⟨c0, c1, c2, c3, c4, c5, c6, c7, c8, c9, c10⟩ : w8.cell? ⟨gf, 0, none⟩ = some (.int .i64 1795) ∧ w8.cell? ⟨gf, 1, none⟩ = some (.bool false) ∧ w8.cell? ⟨gf, 2, none⟩ = some (.int .i64 1) ∧ w8.cell? ⟨gf, 3, none⟩ = some (.int .u8 5) ∧ w8.cell? ⟨gf, 4, none⟩ = some (.int .u8 0) ∧ w8.cell? ⟨gf, 5, none⟩ = some (.int .u8 0) ∧ w8.cell? ⟨gf, 6, none⟩ = some (.int .u8 0) ∧ w8.cell? ⟨gf, 7, none⟩ = some (.int .u8 0) ∧ w8.cell? ⟨gf, 8, none⟩ = some (.int .u8 0) ∧ w8.cell? ⟨gf, 9, none⟩ = some (.int .u8 0) ∧ w8.cell? ⟨gf, 10, none⟩ = some (.int .u8 0) := HX8.out.cells
  obtain ⟨v0, v1, v2⟩ := HV8.out.cells
  have hq := HQ.out
  have hq2 := HQ2.out
  go_wp2_with fail
  all_goals first | (go_ret; exact ⟨rfl, HB8.out⟩) | (trace_state; sorry)
end Go.Proofs.Ytiidgcgamcgipaa
