/- emcy: the walk of EmcyFrames: Encode answers 3, Decode 0. -/
import Derived.Test.YtncnlbokipieaaaEk
import Derived.Deep.CutBlock
namespace Go.Proofs.Ytncnlbokipieaaa
open Go.RowKit Go.Maps
set_option linter.unusedSimpArgs false
set_option linter.unusedVariables false

set_option maxRecDepth 100000 in
set_option maxHeartbeats 4000000 in
theorem frames24_30 (a b R id n I N y0 y1 y2 : Int) (r : Bool) (i d h yi : Nat → Int) (w : World) (H1 : ∀ w, Calls Try.prog 6 #[.agg #[.int .i64 a, .int .i64 b, .int .u8 R, .int .u8 (i 0), .int .u8 (i 1), .int .u8 (i 2), .int .u8 (i 3), .int .u8 (i 4)]] w fun e w' => e = .returned (.tuple #[.agg #[.int .i64 I, .bool false, .int .i64 N, .int .u8 (h 0), .int .u8 (h 1), .int .u8 (h 2), .int .u8 (h 3), .int .u8 (h 4), .int .u8 (h 5), .int .u8 (h 6), .int .u8 (h 7)], .int .i64 3]) ∧ Below w.heap.size w w') (H2 : ∀ w, Calls Try.prog 7 #[.agg #[.int .i64 a, .int .i64 b, .int .u8 R, .int .u8 (i 0), .int .u8 (i 1), .int .u8 (i 2), .int .u8 (i 3), .int .u8 (i 4)]] w fun e w' => e = .returned (.tuple #[.agg #[.int .i64 I, .bool false, .int .i64 N, .int .u8 (h 0), .int .u8 (h 1), .int .u8 (h 2), .int .u8 (h 3), .int .u8 (h 4), .int .u8 (h 5), .int .u8 (h 6), .int .u8 (h 7)], .int .i64 3]) ∧ Below w.heap.size w w') (H4 : ∀ w, Calls Try.prog 8 #[.agg #[.int .i64 id, .bool r, .int .i64 n, .int .u8 (d 0), .int .u8 (d 1), .int .u8 (d 2), .int .u8 (d 3), .int .u8 (d 4), .int .u8 (d 5), .int .u8 (d 6), .int .u8 (d 7)]] w fun e w' => e = .returned (.tuple #[.agg #[.int .i64 y0, .int .i64 y1, .int .u8 y2, .int .u8 (yi 0), .int .u8 (yi 1), .int .u8 (yi 2), .int .u8 (yi 3), .int .u8 (yi 4)], .int .i64 0]) ∧ Below w.heap.size w w') (H5 : ∀ w, Calls Try.prog 9 #[.agg #[.int .i64 id, .bool r, .int .i64 n, .int .u8 (d 0), .int .u8 (d 1), .int .u8 (d 2), .int .u8 (d 3), .int .u8 (d 4), .int .u8 (d 5), .int .u8 (d 6), .int .u8 (d 7)]] w fun e w' => e = .returned (.tuple #[.agg #[.int .i64 y0, .int .i64 y1, .int .u8 y2, .int .u8 (yi 0), .int .u8 (yi 1), .int .u8 (yi 2), .int .u8 (yi 3), .int .u8 (yi 4)], .int .i64 0]) ∧ Below w.heap.size w w') (H6 : ∀ w, Calls Try.prog 6 #[.agg #[.int .i64 y0, .int .i64 y1, .int .u8 y2, .int .u8 (yi 0), .int .u8 (yi 1), .int .u8 (yi 2), .int .u8 (yi 3), .int .u8 (yi 4)]] w fun e w' => e = .returned (.tuple #[.agg #[.int .i64 id, .bool r, .int .i64 n, .int .u8 (d 0), .int .u8 (d 1), .int .u8 (d 2), .int .u8 (d 3), .int .u8 (d 4), .int .u8 (d 5), .int .u8 (d 6), .int .u8 (d 7)], .int .i64 0]) ∧ Below w.heap.size w w') : Calls Try.prog 3 #[.agg #[.int .i64 a, .int .i64 b, .int .u8 R, .int .u8 (i 0), .int .u8 (i 1), .int .u8 (i 2), .int .u8 (i 3), .int .u8 (i 4)], .agg #[.int .i64 id, .bool r, .int .i64 n, .int .u8 (d 0), .int .u8 (d 1), .int .u8 (d 2), .int .u8 (d 3), .int .u8 (d 4), .int .u8 (d 5), .int .u8 (d 6), .int .u8 (d 7)]] w fun e w' => e = .returned (.bool true) ∧ Below w.heap.size w w' := by
  have HQ := Lib.hid (show ∀ w, (Op.equalIn 10000 27 (.agg #[.int .i64 I, .bool false, .int .i64 N, .int .u8 (h 0), .int .u8 (h 1), .int .u8 (h 2), .int .u8 (h 3), .int .u8 (h 4), .int .u8 (h 5), .int .u8 (h 6), .int .u8 (h 7)]) (.agg #[.int .i64 I, .bool false, .int .i64 N, .int .u8 (h 0), .int .u8 (h 1), .int .u8 (h 2), .int .u8 (h 3), .int .u8 (h 4), .int .u8 (h 5), .int .u8 (h 6), .int .u8 (h 7)])).run Try.prog w = .ok true w from fun w => (run_eq_frames w I I N N false false h h).trans (by simp [eqD]))
  have HQX := Lib.hid (show ∀ w, (Op.equalIn 10000 24 (.agg #[.int .i64 a, .int .i64 b, .int .u8 R, .int .u8 (i 0), .int .u8 (i 1), .int .u8 (i 2), .int .u8 (i 3), .int .u8 (i 4)]) (.agg #[.int .i64 a, .int .i64 b, .int .u8 R, .int .u8 (i 0), .int .u8 (i 1), .int .u8 (i 2), .int .u8 (i 3), .int .u8 (i 4)])).run Try.prog w = .ok true w from fun w => (run_eq_em w a a b b R R i i).trans (by simp [eqI]))
  have HQY := Lib.hid (show ∀ w, (Op.equalIn 10000 24 (.agg #[.int .i64 y0, .int .i64 y1, .int .u8 y2, .int .u8 (yi 0), .int .u8 (yi 1), .int .u8 (yi 2), .int .u8 (yi 3), .int .u8 (yi 4)]) (.agg #[.int .i64 y0, .int .i64 y1, .int .u8 y2, .int .u8 (yi 0), .int .u8 (yi 1), .int .u8 (yi 2), .int .u8 (yi 3), .int .u8 (yi 4)])).run Try.prog w = .ok true w from fun w => (run_eq_em w y0 y0 y1 y1 y2 y2 yi yi).trans (by simp [eqI]))
  have HQF := Lib.hid (show ∀ w, (Op.equalIn 10000 27 (.agg #[.int .i64 id, .bool r, .int .i64 n, .int .u8 (d 0), .int .u8 (d 1), .int .u8 (d 2), .int .u8 (d 3), .int .u8 (d 4), .int .u8 (d 5), .int .u8 (d 6), .int .u8 (d 7)]) (.agg #[.int .i64 id, .bool r, .int .i64 n, .int .u8 (d 0), .int .u8 (d 1), .int .u8 (d 2), .int .u8 (d 3), .int .u8 (d 4), .int .u8 (d 5), .int .u8 (d 6), .int .u8 (d 7)])).run Try.prog w = .ok true w from fun w => (run_eq_frames w id id n n r r d d).trans (by simp [eqD]))
  have K1 := Lib.hid H1
  have K2 := Lib.hid H2
  have K4 := Lib.hid H4
  have K5 := Lib.hid H5
  have K6 := Lib.hid H6
  clear H1 H2 H4 H5 H6
  have HX := Lib.hid ((em_new w a b R i).below ((Below.refl _ _).alloc (Nat.le_refl _) (.cells #[.int .i64 id, .bool r, .int .i64 n, .int .u8 (d 0), .int .u8 (d 1), .int .u8 (d 2), .int .u8 (d 3), .int .u8 (d 4), .int .u8 (d 5), .int .u8 (d 6), .int .u8 (d 7)] 27)) (em_new w a b R i).lt)
  have HF := Lib.hid (frame_new (w.alloc (.cells #[.int .i64 a, .int .i64 b, .int .u8 R, .int .u8 (i 0), .int .u8 (i 1), .int .u8 (i 2), .int .u8 (i 3), .int .u8 (i 4)] 24)) id n r d)
  have HB := Lib.hid (((Below.refl w.heap.size w).alloc (Nat.le_refl _) (.cells #[.int .i64 a, .int .i64 b, .int .u8 R, .int .u8 (i 0), .int .u8 (i 1), .int .u8 (i 2), .int .u8 (i 3), .int .u8 (i 4)] 24)).alloc (by simp) (.cells #[.int .i64 id, .bool r, .int .i64 n, .int .u8 (d 0), .int .u8 (d 1), .int .u8 (d 2), .int .u8 (d 3), .int .u8 (d 4), .int .u8 (d 5), .int .u8 (d 6), .int .u8 (d 7)] 27))
  have hs1 : (w.alloc (.cells #[.int .i64 a, .int .i64 b, .int .u8 R, .int .u8 (i 0), .int .u8 (i 1), .int .u8 (i 2), .int .u8 (i 3), .int .u8 (i 4)] 24)).heap.size = w.heap.size + 1 := by simp
  rw [hs1] at HF
  clear hs1
  go_enter Try.func3, Try.ntmps3
  go_upto_region 1 with fail
  generalize (w.alloc (.cells #[.int .i64 a, .int .i64 b, .int .u8 R, .int .u8 (i 0), .int .u8 (i 1), .int .u8 (i 2), .int .u8 (i 3), .int .u8 (i 4)] 24)).alloc (.cells #[.int .i64 id, .bool r, .int .i64 n, .int .u8 (d 0), .int .u8 (d 1), .int .u8 (d 2), .int .u8 (d 3), .int .u8 (d 4), .int .u8 (d 5), .int .u8 (d 6), .int .u8 (d 7)] 27) = w1 at *
  generalize w.heap.size + 1 = gf at *
  go_upto_region 2 with (first
    | (refine wpList_load_row rfl _ (.tmp 2) rfl w.heap.size rfl _ _ _ _ HX.out Try.underlying24 rfl info_em ?_)
    | (go_at_call 6; refine (K1.out _).mono ?_; rintro e v2 ⟨rfl, hb⟩; have HXn := Lib.hid (em_step HX.out hb (.cells #[.int .i64 0, .bool false, .int .i64 0, .int .u8 0, .int .u8 0, .int .u8 0, .int .u8 0, .int .u8 0, .int .u8 0, .int .u8 0, .int .u8 0] 27) #[.int .i64 I, .bool false, .int .i64 N, .int .u8 (h 0), .int .u8 (h 1), .int .u8 (h 2), .int .u8 (h 3), .int .u8 (h 4), .int .u8 (h 5), .int .u8 (h 6), .int .u8 (h 7)]); have HFn := Lib.hid (fr_step HF.out hb (.cells #[.int .i64 0, .bool false, .int .i64 0, .int .u8 0, .int .u8 0, .int .u8 0, .int .u8 0, .int .u8 0, .int .u8 0, .int .u8 0, .int .u8 0] 27) #[.int .i64 I, .bool false, .int .i64 N, .int .u8 (h 0), .int .u8 (h 1), .int .u8 (h 2), .int .u8 (h 3), .int .u8 (h 4), .int .u8 (h 5), .int .u8 (h 6), .int .u8 (h 7)]); have HG := Lib.hid (fr_made v2 I N false h); have HN0 := Lib.hid (frame_new v2 0 0 false (fun _ => 0)); have HBn := Lib.hid (bel_step HB.out hb (.cells #[.int .i64 0, .bool false, .int .i64 0, .int .u8 0, .int .u8 0, .int .u8 0, .int .u8 0, .int .u8 0, .int .u8 0, .int .u8 0, .int .u8 0] 27) #[.int .i64 I, .bool false, .int .i64 N, .int .u8 (h 0), .int .u8 (h 1), .int .u8 (h 2), .int .u8 (h 3), .int .u8 (h 4), .int .u8 (h 5), .int .u8 (h 6), .int .u8 (h 7)]); clear hb)
    | (refine wpList_store_row rfl _ (.tmp 5) (.tmp 20) rfl v2.heap.size _ rfl rfl _ _ HN0.out info_frame rfl (one_frame I N false h) ?_))
  clear HX HF HB HN0
  generalize (v2.alloc (.cells #[.int .i64 0, .bool false, .int .i64 0, .int .u8 0, .int .u8 0, .int .u8 0, .int .u8 0, .int .u8 0, .int .u8 0, .int .u8 0, .int .u8 0] 27)).setRow v2.heap.size #[.int .i64 I, .bool false, .int .i64 N, .int .u8 (h 0), .int .u8 (h 1), .int .u8 (h 2), .int .u8 (h 3), .int .u8 (h 4), .int .u8 (h 5), .int .u8 (h 6), .int .u8 (h 7)] = w2 at *
  generalize v2.heap.size = g2 at *
  have HX := HXn
  have HF := HFn
  have HB := HBn
  clear HXn HFn HBn
  go_upto_region 3 with (first
    | (refine wpList_load_row rfl _ (.tmp 2) rfl w.heap.size rfl _ _ _ _ HX.out Try.underlying24 rfl info_em ?_)
    | (go_at_call 7; refine (K2.out _).mono ?_; rintro e v3 ⟨rfl, hb⟩; have HXn := Lib.hid (em_step HX.out hb (.cells #[.int .i64 0, .bool false, .int .i64 0, .int .u8 0, .int .u8 0, .int .u8 0, .int .u8 0, .int .u8 0, .int .u8 0, .int .u8 0, .int .u8 0] 27) #[.int .i64 I, .bool false, .int .i64 N, .int .u8 (h 0), .int .u8 (h 1), .int .u8 (h 2), .int .u8 (h 3), .int .u8 (h 4), .int .u8 (h 5), .int .u8 (h 6), .int .u8 (h 7)]); have HFn := Lib.hid (fr_step HF.out hb (.cells #[.int .i64 0, .bool false, .int .i64 0, .int .u8 0, .int .u8 0, .int .u8 0, .int .u8 0, .int .u8 0, .int .u8 0, .int .u8 0, .int .u8 0] 27) #[.int .i64 I, .bool false, .int .i64 N, .int .u8 (h 0), .int .u8 (h 1), .int .u8 (h 2), .int .u8 (h 3), .int .u8 (h 4), .int .u8 (h 5), .int .u8 (h 6), .int .u8 (h 7)]); have HGn := Lib.hid (fr_step HG.out hb (.cells #[.int .i64 0, .bool false, .int .i64 0, .int .u8 0, .int .u8 0, .int .u8 0, .int .u8 0, .int .u8 0, .int .u8 0, .int .u8 0, .int .u8 0] 27) #[.int .i64 I, .bool false, .int .i64 N, .int .u8 (h 0), .int .u8 (h 1), .int .u8 (h 2), .int .u8 (h 3), .int .u8 (h 4), .int .u8 (h 5), .int .u8 (h 6), .int .u8 (h 7)]); have HH := Lib.hid (fr_made v3 I N false h); have HN0 := Lib.hid (frame_new v3 0 0 false (fun _ => 0)); have HBn := Lib.hid (bel_step HB.out hb (.cells #[.int .i64 0, .bool false, .int .i64 0, .int .u8 0, .int .u8 0, .int .u8 0, .int .u8 0, .int .u8 0, .int .u8 0, .int .u8 0, .int .u8 0] 27) #[.int .i64 I, .bool false, .int .i64 N, .int .u8 (h 0), .int .u8 (h 1), .int .u8 (h 2), .int .u8 (h 3), .int .u8 (h 4), .int .u8 (h 5), .int .u8 (h 6), .int .u8 (h 7)]); clear hb)
    | (refine wpList_store_row rfl _ (.tmp 7) (.tmp 25) rfl v3.heap.size _ rfl rfl _ _ HN0.out info_frame rfl (one_frame I N false h) ?_))
  clear HX HF HG HB HN0
  generalize (v3.alloc (.cells #[.int .i64 0, .bool false, .int .i64 0, .int .u8 0, .int .u8 0, .int .u8 0, .int .u8 0, .int .u8 0, .int .u8 0, .int .u8 0, .int .u8 0] 27)).setRow v3.heap.size #[.int .i64 I, .bool false, .int .i64 N, .int .u8 (h 0), .int .u8 (h 1), .int .u8 (h 2), .int .u8 (h 3), .int .u8 (h 4), .int .u8 (h 5), .int .u8 (h 6), .int .u8 (h 7)] = w3 at *
  generalize v3.heap.size = g3 at *
  have HX := HXn
  have HF := HFn
  have HG := HGn
  have HB := HBn
  clear HXn HFn HGn HBn
  have hq := HQ.out
  have tE : ((3 : Int) == 3) = true := by decide
  go_upto_region 9 with (first
    | (refine wpList_load_row rfl _ (.tmp 5) rfl g2 rfl _ _ _ _ HG.out Try.underlying27 rfl info_frame ?_)
    | (refine wpList_load_row rfl _ (.tmp 7) rfl g3 rfl _ _ _ _ HH.out Try.underlying27 rfl info_frame ?_))
  clear hq
  go_upto_region 10 with (first
    | (refine wpList_load_row rfl _ (.tmp 3) rfl gf rfl _ _ _ _ HF.out Try.underlying27 rfl info_frame ?_)
    | (go_at_call 8; refine (K4.out _).mono ?_; rintro e v4 ⟨rfl, hb⟩; have HXn := Lib.hid (em_step HX.out hb (.cells #[.int .i64 0, .int .i64 0, .int .u8 0, .int .u8 0, .int .u8 0, .int .u8 0, .int .u8 0, .int .u8 0] 24) #[.int .i64 y0, .int .i64 y1, .int .u8 y2, .int .u8 (yi 0), .int .u8 (yi 1), .int .u8 (yi 2), .int .u8 (yi 3), .int .u8 (yi 4)]); have HFn := Lib.hid (fr_step HF.out hb (.cells #[.int .i64 0, .int .i64 0, .int .u8 0, .int .u8 0, .int .u8 0, .int .u8 0, .int .u8 0, .int .u8 0] 24) #[.int .i64 y0, .int .i64 y1, .int .u8 y2, .int .u8 (yi 0), .int .u8 (yi 1), .int .u8 (yi 2), .int .u8 (yi 3), .int .u8 (yi 4)]); have HGn := Lib.hid (fr_step HG.out hb (.cells #[.int .i64 0, .int .i64 0, .int .u8 0, .int .u8 0, .int .u8 0, .int .u8 0, .int .u8 0, .int .u8 0] 24) #[.int .i64 y0, .int .i64 y1, .int .u8 y2, .int .u8 (yi 0), .int .u8 (yi 1), .int .u8 (yi 2), .int .u8 (yi 3), .int .u8 (yi 4)]); have HHn := Lib.hid (fr_step HH.out hb (.cells #[.int .i64 0, .int .i64 0, .int .u8 0, .int .u8 0, .int .u8 0, .int .u8 0, .int .u8 0, .int .u8 0] 24) #[.int .i64 y0, .int .i64 y1, .int .u8 y2, .int .u8 (yi 0), .int .u8 (yi 1), .int .u8 (yi 2), .int .u8 (yi 3), .int .u8 (yi 4)]); have HY := Lib.hid (em_made v4 y0 y1 y2 yi); have HN0 := Lib.hid (em_new v4 0 0 0 (fun _ => 0)); have HBn := Lib.hid (bel_step HB.out hb (.cells #[.int .i64 0, .int .i64 0, .int .u8 0, .int .u8 0, .int .u8 0, .int .u8 0, .int .u8 0, .int .u8 0] 24) #[.int .i64 y0, .int .i64 y1, .int .u8 y2, .int .u8 (yi 0), .int .u8 (yi 1), .int .u8 (yi 2), .int .u8 (yi 3), .int .u8 (yi 4)]); clear hb)
    | (refine wpList_store_row rfl _ (.tmp 11) (.tmp 52) rfl v4.heap.size _ rfl rfl _ _ HN0.out info_em rfl (one_em y0 y1 y2 yi) ?_))
  clear HX HF HG HH HB HN0
  generalize (v4.alloc (.cells #[.int .i64 0, .int .i64 0, .int .u8 0, .int .u8 0, .int .u8 0, .int .u8 0, .int .u8 0, .int .u8 0] 24)).setRow v4.heap.size #[.int .i64 y0, .int .i64 y1, .int .u8 y2, .int .u8 (yi 0), .int .u8 (yi 1), .int .u8 (yi 2), .int .u8 (yi 3), .int .u8 (yi 4)] = w4 at *
  generalize v4.heap.size = g4 at *
  have HX := HXn
  have HF := HFn
  have HG := HGn
  have HH := HHn
  have HB := HBn
  clear HXn HFn HGn HHn HBn
  go_upto_region 11 with (first
    | (refine wpList_load_row rfl _ (.tmp 3) rfl gf rfl _ _ _ _ HF.out Try.underlying27 rfl info_frame ?_)
    | (go_at_call 9; refine (K5.out _).mono ?_; rintro e v5 ⟨rfl, hb⟩; have HXn := Lib.hid (em_step HX.out hb (.cells #[.int .i64 0, .int .i64 0, .int .u8 0, .int .u8 0, .int .u8 0, .int .u8 0, .int .u8 0, .int .u8 0] 24) #[.int .i64 y0, .int .i64 y1, .int .u8 y2, .int .u8 (yi 0), .int .u8 (yi 1), .int .u8 (yi 2), .int .u8 (yi 3), .int .u8 (yi 4)]); have HFn := Lib.hid (fr_step HF.out hb (.cells #[.int .i64 0, .int .i64 0, .int .u8 0, .int .u8 0, .int .u8 0, .int .u8 0, .int .u8 0, .int .u8 0] 24) #[.int .i64 y0, .int .i64 y1, .int .u8 y2, .int .u8 (yi 0), .int .u8 (yi 1), .int .u8 (yi 2), .int .u8 (yi 3), .int .u8 (yi 4)]); have HGn := Lib.hid (fr_step HG.out hb (.cells #[.int .i64 0, .int .i64 0, .int .u8 0, .int .u8 0, .int .u8 0, .int .u8 0, .int .u8 0, .int .u8 0] 24) #[.int .i64 y0, .int .i64 y1, .int .u8 y2, .int .u8 (yi 0), .int .u8 (yi 1), .int .u8 (yi 2), .int .u8 (yi 3), .int .u8 (yi 4)]); have HHn := Lib.hid (fr_step HH.out hb (.cells #[.int .i64 0, .int .i64 0, .int .u8 0, .int .u8 0, .int .u8 0, .int .u8 0, .int .u8 0, .int .u8 0] 24) #[.int .i64 y0, .int .i64 y1, .int .u8 y2, .int .u8 (yi 0), .int .u8 (yi 1), .int .u8 (yi 2), .int .u8 (yi 3), .int .u8 (yi 4)]); have HYn := Lib.hid (em_step HY.out hb (.cells #[.int .i64 0, .int .i64 0, .int .u8 0, .int .u8 0, .int .u8 0, .int .u8 0, .int .u8 0, .int .u8 0] 24) #[.int .i64 y0, .int .i64 y1, .int .u8 y2, .int .u8 (yi 0), .int .u8 (yi 1), .int .u8 (yi 2), .int .u8 (yi 3), .int .u8 (yi 4)]); have HZ := Lib.hid (em_made v5 y0 y1 y2 yi); have HN0 := Lib.hid (em_new v5 0 0 0 (fun _ => 0)); have HBn := Lib.hid (bel_step HB.out hb (.cells #[.int .i64 0, .int .i64 0, .int .u8 0, .int .u8 0, .int .u8 0, .int .u8 0, .int .u8 0, .int .u8 0] 24) #[.int .i64 y0, .int .i64 y1, .int .u8 y2, .int .u8 (yi 0), .int .u8 (yi 1), .int .u8 (yi 2), .int .u8 (yi 3), .int .u8 (yi 4)]); clear hb)
    | (refine wpList_store_row rfl _ (.tmp 13) (.tmp 57) rfl v5.heap.size _ rfl rfl _ _ HN0.out info_em rfl (one_em y0 y1 y2 yi) ?_))
  clear HX HF HG HH HY HB HN0
  generalize (v5.alloc (.cells #[.int .i64 0, .int .i64 0, .int .u8 0, .int .u8 0, .int .u8 0, .int .u8 0, .int .u8 0, .int .u8 0] 24)).setRow v5.heap.size #[.int .i64 y0, .int .i64 y1, .int .u8 y2, .int .u8 (yi 0), .int .u8 (yi 1), .int .u8 (yi 2), .int .u8 (yi 3), .int .u8 (yi 4)] = w5 at *
  generalize v5.heap.size = g5 at *
  have HX := HXn
  have HF := HFn
  have HG := HGn
  have HH := HHn
  have HY := HYn
  have HB := HBn
  clear HXn HFn HGn HHn HYn HBn
  have hqy := HQY.out
  have tK : ((0 : Int) == 0) = true := by decide
  go_upto_region 13 with (first
    | (refine wpList_load_row rfl _ (.tmp 11) rfl g4 rfl _ _ _ _ HY.out Try.underlying24 rfl info_em ?_)
    | (refine wpList_load_row rfl _ (.tmp 13) rfl g5 rfl _ _ _ _ HZ.out Try.underlying24 rfl info_em ?_))
  clear hqy
  go_upto_region 14 with (first
    | (refine wpList_load_row rfl _ (.tmp 11) rfl g4 rfl _ _ _ _ HY.out Try.underlying24 rfl info_em ?_)
    | (go_at_call 6; refine (K6.out _).mono ?_; rintro e v6 ⟨rfl, hb⟩; have HXn := Lib.hid (em_step HX.out hb (.cells #[.int .i64 0, .bool false, .int .i64 0, .int .u8 0, .int .u8 0, .int .u8 0, .int .u8 0, .int .u8 0, .int .u8 0, .int .u8 0, .int .u8 0] 27) #[.int .i64 id, .bool r, .int .i64 n, .int .u8 (d 0), .int .u8 (d 1), .int .u8 (d 2), .int .u8 (d 3), .int .u8 (d 4), .int .u8 (d 5), .int .u8 (d 6), .int .u8 (d 7)]); have HFn := Lib.hid (fr_step HF.out hb (.cells #[.int .i64 0, .bool false, .int .i64 0, .int .u8 0, .int .u8 0, .int .u8 0, .int .u8 0, .int .u8 0, .int .u8 0, .int .u8 0, .int .u8 0] 27) #[.int .i64 id, .bool r, .int .i64 n, .int .u8 (d 0), .int .u8 (d 1), .int .u8 (d 2), .int .u8 (d 3), .int .u8 (d 4), .int .u8 (d 5), .int .u8 (d 6), .int .u8 (d 7)]); have HGn := Lib.hid (fr_step HG.out hb (.cells #[.int .i64 0, .bool false, .int .i64 0, .int .u8 0, .int .u8 0, .int .u8 0, .int .u8 0, .int .u8 0, .int .u8 0, .int .u8 0, .int .u8 0] 27) #[.int .i64 id, .bool r, .int .i64 n, .int .u8 (d 0), .int .u8 (d 1), .int .u8 (d 2), .int .u8 (d 3), .int .u8 (d 4), .int .u8 (d 5), .int .u8 (d 6), .int .u8 (d 7)]); have HHn := Lib.hid (fr_step HH.out hb (.cells #[.int .i64 0, .bool false, .int .i64 0, .int .u8 0, .int .u8 0, .int .u8 0, .int .u8 0, .int .u8 0, .int .u8 0, .int .u8 0, .int .u8 0] 27) #[.int .i64 id, .bool r, .int .i64 n, .int .u8 (d 0), .int .u8 (d 1), .int .u8 (d 2), .int .u8 (d 3), .int .u8 (d 4), .int .u8 (d 5), .int .u8 (d 6), .int .u8 (d 7)]); have HYn := Lib.hid (em_step HY.out hb (.cells #[.int .i64 0, .bool false, .int .i64 0, .int .u8 0, .int .u8 0, .int .u8 0, .int .u8 0, .int .u8 0, .int .u8 0, .int .u8 0, .int .u8 0] 27) #[.int .i64 id, .bool r, .int .i64 n, .int .u8 (d 0), .int .u8 (d 1), .int .u8 (d 2), .int .u8 (d 3), .int .u8 (d 4), .int .u8 (d 5), .int .u8 (d 6), .int .u8 (d 7)]); have HZn := Lib.hid (em_step HZ.out hb (.cells #[.int .i64 0, .bool false, .int .i64 0, .int .u8 0, .int .u8 0, .int .u8 0, .int .u8 0, .int .u8 0, .int .u8 0, .int .u8 0, .int .u8 0] 27) #[.int .i64 id, .bool r, .int .i64 n, .int .u8 (d 0), .int .u8 (d 1), .int .u8 (d 2), .int .u8 (d 3), .int .u8 (d 4), .int .u8 (d 5), .int .u8 (d 6), .int .u8 (d 7)]); have HK := Lib.hid (fr_made v6 id n r d); have HN0 := Lib.hid (frame_new v6 0 0 false (fun _ => 0)); have HBn := Lib.hid (bel_step HB.out hb (.cells #[.int .i64 0, .bool false, .int .i64 0, .int .u8 0, .int .u8 0, .int .u8 0, .int .u8 0, .int .u8 0, .int .u8 0, .int .u8 0, .int .u8 0] 27) #[.int .i64 id, .bool r, .int .i64 n, .int .u8 (d 0), .int .u8 (d 1), .int .u8 (d 2), .int .u8 (d 3), .int .u8 (d 4), .int .u8 (d 5), .int .u8 (d 6), .int .u8 (d 7)]); clear hb)
    | (refine wpList_store_row rfl _ (.tmp 15) (.tmp 70) rfl v6.heap.size _ rfl rfl _ _ HN0.out info_frame rfl (one_frame id n r d) ?_))
  clear HX HF HG HH HY HZ HB HN0
  generalize (v6.alloc (.cells #[.int .i64 0, .bool false, .int .i64 0, .int .u8 0, .int .u8 0, .int .u8 0, .int .u8 0, .int .u8 0, .int .u8 0, .int .u8 0, .int .u8 0] 27)).setRow v6.heap.size #[.int .i64 id, .bool r, .int .i64 n, .int .u8 (d 0), .int .u8 (d 1), .int .u8 (d 2), .int .u8 (d 3), .int .u8 (d 4), .int .u8 (d 5), .int .u8 (d 6), .int .u8 (d 7)] = w6 at *
  generalize v6.heap.size = g6 at *
  have HX := HXn
  have HF := HFn
  have HG := HGn
  have HH := HHn
  have HY := HYn
  have HZ := HZn
  have HB := HBn
  clear HXn HFn HGn HHn HYn HZn HBn
  have hqf := HQF.out
  go_wp2_with (go_at_call 10; refine (live24_any _).mono ?_; rintro e z1 ⟨rfl, hb⟩; have HF2 := Lib.hid (HF.out.below hb HF.out.lt); have HK2 := Lib.hid (HK.out.below hb HK.out.lt); have HB2 := Lib.hid (HB.out.trans (hb.mono HB.out.size)); clear hb; obtain ⟨p0, p1, p2, p3, p4, p5, p6, p7, p8, p9, p10⟩ := HF2.out.cells; obtain ⟨q0, q1, q2, q3, q4, q5, q6, q7, q8, q9, q10⟩ := HK2.out.cells)
  all_goals first | exact bodyPost_ret (results_tmp rfl _ _ _) rfl ⟨rfl, HB2.out⟩ | (trace_state; sorry)
end Go.Proofs.Ytncnlbokipieaaa
