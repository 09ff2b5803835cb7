/- pulse: the document's hearer. -/
import Derived.Test.YthofimkjemhnoaaPuf
import Derived.Test.YthofimkjemhnoaaPBFrameE
import Derived.Test.YthofimkjemhnoaaPCEls
namespace Go.Proofs.Ythofimkjemhnoaa
open Go.RowKit
set_option linter.unusedSimpArgs false
set_option linter.unusedVariables false

theorem ov_split {o : Int} (h : isOv o = true) : o = 0 ∨ (¬ o = 0 ∧ 0 < o ∧ 2 ≤ o ∧ o ≤ 240) := by rcases ov_in h with h | h <;> omega
set_option maxRecDepth 100000 in
set_option maxHeartbeats 4000000 in
theorem rhear_chk (ov id n : Int) (r : Bool) (d : Nat → Int) (w : World) (h0 : 0 ≤ d 0 ∧ d 0 ≤ 255) (ho : isOv ov = true) (hk : ¬ chk id r n d = 0) : Calls Try.prog 21 #[.int .i64 ov, .agg #[.int .i64 id, .bool r, .int .i64 n, .int .u8 (d 0), .int .u8 (d 1), .int .u8 (d 2), .int .u8 (d 3), .int .u8 (d 4), .int .u8 (d 5), .int .u8 (d 6), .int .u8 (d 7)]] w fun e w' => e = .returned (.tuple #[.int .i64 0, .int .i64 4]) ∧ Below w.heap.size w w' := by
  have e1 : IntKind.i64.wrap (d 0) = d 0 := IntWalk.i64_in _ (by omega)
  have HC := Lib.hid (fun w => dcheck_any id n r d w)
  have HF := Lib.hid (frame_new w id n r d)
  have HB := Lib.hid (show Below w.heap.size w (w.alloc (.cells #[.int .i64 id, .bool r, .int .i64 n, .int .u8 (d 0), .int .u8 (d 1), .int .u8 (d 2), .int .u8 (d 3), .int .u8 (d 4), .int .u8 (d 5), .int .u8 (d 6), .int .u8 (d 7)] 24)) from (Below.refl _ _).alloc (Nat.le_refl _) _)
  generalize chk id r n d = k at *
  clear h0 ho
  obtain ⟨c0, c1, c2, c3, c4, c5, c6, c7, c8, c9, c10⟩ := HF.out.cells
  go_enter Try.func21, Try.ntmps21
  go_wp2_with (go_at_call 36; refine (HC.out _).mono ?_; rintro e w1 ⟨rfl, hb1⟩; have HF1 := Lib.hid (HF.out.below hb1 HF.out.lt); have HB1 := Lib.hid (HB.out.trans (hb1.mono HB.out.size)); clear hb1 c0 c1 c2 c3 c4 c5 c6 c7 c8 c9 c10; obtain ⟨c0, c1, c2, c3, c4, c5, c6, c7, c8, c9, c10⟩ := HF1.out.cells)
  all_goals first | (go_ret2; exact ⟨rfl, HB1.out⟩) | (trace_state; sorry)
set_option maxRecDepth 100000 in
set_option maxHeartbeats 4000000 in
theorem rhear_id (ov id n : Int) (r : Bool) (d : Nat → Int) (w : World) (h0 : 0 ≤ d 0 ∧ d 0 ≤ 255) (ho : isOv ov = true) (hk : chk id r n d = 0) (hi : ¬ id = 128) : Calls Try.prog 21 #[.int .i64 ov, .agg #[.int .i64 id, .bool r, .int .i64 n, .int .u8 (d 0), .int .u8 (d 1), .int .u8 (d 2), .int .u8 (d 3), .int .u8 (d 4), .int .u8 (d 5), .int .u8 (d 6), .int .u8 (d 7)]] w fun e w' => e = .returned (.tuple #[.int .i64 0, .int .i64 4]) ∧ Below w.heap.size w w' := by
  have e1 : IntKind.i64.wrap (d 0) = d 0 := IntWalk.i64_in _ (by omega)
  have HC := Lib.hid (fun w => dcheck_any id n r d w)
  have HF := Lib.hid (frame_new w id n r d)
  have HB := Lib.hid (show Below w.heap.size w (w.alloc (.cells #[.int .i64 id, .bool r, .int .i64 n, .int .u8 (d 0), .int .u8 (d 1), .int .u8 (d 2), .int .u8 (d 3), .int .u8 (d 4), .int .u8 (d 5), .int .u8 (d 6), .int .u8 (d 7)] 24)) from (Below.refl _ _).alloc (Nat.le_refl _) _)
  rw [hk] at HC
  clear h0 ho hk
  obtain ⟨c0, c1, c2, c3, c4, c5, c6, c7, c8, c9, c10⟩ := HF.out.cells
  go_enter Try.func21, Try.ntmps21
  go_wp2_with (go_at_call 36; refine (HC.out _).mono ?_; rintro e w1 ⟨rfl, hb1⟩; have HF1 := Lib.hid (HF.out.below hb1 HF.out.lt); have HB1 := Lib.hid (HB.out.trans (hb1.mono HB.out.size)); clear hb1 c0 c1 c2 c3 c4 c5 c6 c7 c8 c9 c10; obtain ⟨c0, c1, c2, c3, c4, c5, c6, c7, c8, c9, c10⟩ := HF1.out.cells)
  all_goals first | (go_ret2; exact ⟨rfl, HB1.out⟩) | (trace_state; sorry)
set_option maxRecDepth 100000 in
set_option maxHeartbeats 4000000 in
theorem rhear_rtr (ov id n : Int) (r : Bool) (d : Nat → Int) (w : World) (h0 : 0 ≤ d 0 ∧ d 0 ≤ 255) (ho : isOv ov = true) (hk : chk id r n d = 0) (hi : id = 128) (hr : r = true) : Calls Try.prog 21 #[.int .i64 ov, .agg #[.int .i64 id, .bool r, .int .i64 n, .int .u8 (d 0), .int .u8 (d 1), .int .u8 (d 2), .int .u8 (d 3), .int .u8 (d 4), .int .u8 (d 5), .int .u8 (d 6), .int .u8 (d 7)]] w fun e w' => e = .returned (.tuple #[.int .i64 0, .int .i64 4]) ∧ Below w.heap.size w w' := by
  have e1 : IntKind.i64.wrap (d 0) = d 0 := IntWalk.i64_in _ (by omega)
  have HC := Lib.hid (fun w => dcheck_any id n r d w)
  have HF := Lib.hid (frame_new w id n r d)
  have HB := Lib.hid (show Below w.heap.size w (w.alloc (.cells #[.int .i64 id, .bool r, .int .i64 n, .int .u8 (d 0), .int .u8 (d 1), .int .u8 (d 2), .int .u8 (d 3), .int .u8 (d 4), .int .u8 (d 5), .int .u8 (d 6), .int .u8 (d 7)] 24)) from (Below.refl _ _).alloc (Nat.le_refl _) _)
  rw [hk] at HC
  subst hi hr
  clear h0 ho hk
  obtain ⟨c0, c1, c2, c3, c4, c5, c6, c7, c8, c9, c10⟩ := HF.out.cells
  go_enter Try.func21, Try.ntmps21
  go_wp2_with (go_at_call 36; refine (HC.out _).mono ?_; rintro e w1 ⟨rfl, hb1⟩; have HF1 := Lib.hid (HF.out.below hb1 HF.out.lt); have HB1 := Lib.hid (HB.out.trans (hb1.mono HB.out.size)); clear hb1 c0 c1 c2 c3 c4 c5 c6 c7 c8 c9 c10; obtain ⟨c0, c1, c2, c3, c4, c5, c6, c7, c8, c9, c10⟩ := HF1.out.cells)
  all_goals first | (go_ret2; exact ⟨rfl, HB1.out⟩) | (trace_state; sorry)
set_option maxRecDepth 100000 in
set_option maxHeartbeats 4000000 in
theorem rhear_len (ov id n : Int) (r : Bool) (d : Nat → Int) (w : World) (h0 : 0 ≤ d 0 ∧ d 0 ≤ 255) (ho : isOv ov = true) (hk : chk id r n d = 0) (hi : id = 128) (hr : r = false) (hn : ¬ n = lenO ov) : Calls Try.prog 21 #[.int .i64 ov, .agg #[.int .i64 id, .bool r, .int .i64 n, .int .u8 (d 0), .int .u8 (d 1), .int .u8 (d 2), .int .u8 (d 3), .int .u8 (d 4), .int .u8 (d 5), .int .u8 (d 6), .int .u8 (d 7)]] w fun e w' => e = .returned (.tuple #[.int .i64 0, .int .i64 11]) ∧ Below w.heap.size w w' := by
  have e1 : IntKind.i64.wrap (d 0) = d 0 := IntWalk.i64_in _ (by omega)
  have HC := Lib.hid (fun w => dcheck_any id n r d w)
  have HF := Lib.hid (frame_new w id n r d)
  have HB := Lib.hid (show Below w.heap.size w (w.alloc (.cells #[.int .i64 id, .bool r, .int .i64 n, .int .u8 (d 0), .int .u8 (d 1), .int .u8 (d 2), .int .u8 (d 3), .int .u8 (d 4), .int .u8 (d 5), .int .u8 (d 6), .int .u8 (d 7)] 24)) from (Below.refl _ _).alloc (Nat.le_refl _) _)
  rw [hk] at HC
  subst hi hr
  rcases ov_split ho with rfl | ⟨g1, g2, g3, g4⟩
  · have hn0 : ¬ n = 0 := hn
    clear h0 ho hk hn
    obtain ⟨c0, c1, c2, c3, c4, c5, c6, c7, c8, c9, c10⟩ := HF.out.cells
    go_enter Try.func21, Try.ntmps21
    go_wp2_with (go_at_call 36; refine (HC.out _).mono ?_; rintro e w1 ⟨rfl, hb1⟩; have HF1 := Lib.hid (HF.out.below hb1 HF.out.lt); have HB1 := Lib.hid (HB.out.trans (hb1.mono HB.out.size)); clear hb1 c0 c1 c2 c3 c4 c5 c6 c7 c8 c9 c10; obtain ⟨c0, c1, c2, c3, c4, c5, c6, c7, c8, c9, c10⟩ := HF1.out.cells)
    all_goals first | (go_ret2; exact ⟨rfl, HB1.out⟩) | (trace_state; sorry)
  · have hn0 : ¬ n = 1 := by rw [show lenO ov = 1 from if_neg g1] at hn; exact hn
    have t0 : (ov == 0) = false := by simpa using g1
    clear h0 ho hk hn g1 g3 g4
    obtain ⟨c0, c1, c2, c3, c4, c5, c6, c7, c8, c9, c10⟩ := HF.out.cells
    go_enter Try.func21, Try.ntmps21
    go_wp2_with (go_at_call 36; refine (HC.out _).mono ?_; rintro e w1 ⟨rfl, hb1⟩; have HF1 := Lib.hid (HF.out.below hb1 HF.out.lt); have HB1 := Lib.hid (HB.out.trans (hb1.mono HB.out.size)); clear hb1 c0 c1 c2 c3 c4 c5 c6 c7 c8 c9 c10; obtain ⟨c0, c1, c2, c3, c4, c5, c6, c7, c8, c9, c10⟩ := HF1.out.cells)
    all_goals first | (go_ret2; exact ⟨rfl, HB1.out⟩) | (trace_state; sorry)
set_option maxRecDepth 100000 in
set_option maxHeartbeats 4000000 in
theorem rhear_cnt (ov id n : Int) (r : Bool) (d : Nat → Int) (w : World) (h0 : 0 ≤ d 0 ∧ d 0 ≤ 255) (ho : isOv ov = true) (hk : chk id r n d = 0) (hi : id = 128) (hr : r = false) (hn : n = lenO ov) (hc : isCt (d 0) ov = false) : Calls Try.prog 21 #[.int .i64 ov, .agg #[.int .i64 id, .bool r, .int .i64 n, .int .u8 (d 0), .int .u8 (d 1), .int .u8 (d 2), .int .u8 (d 3), .int .u8 (d 4), .int .u8 (d 5), .int .u8 (d 6), .int .u8 (d 7)]] w fun e w' => e = .returned (.tuple #[.int .i64 0, .int .i64 3]) ∧ Below w.heap.size w w' := by
  have e1 : IntKind.i64.wrap (d 0) = d 0 := IntWalk.i64_in _ (by omega)
  have HC := Lib.hid (fun w => dcheck_any id n r d w)
  have HF := Lib.hid (frame_new w id n r d)
  have HB := Lib.hid (show Below w.heap.size w (w.alloc (.cells #[.int .i64 id, .bool r, .int .i64 n, .int .u8 (d 0), .int .u8 (d 1), .int .u8 (d 2), .int .u8 (d 3), .int .u8 (d 4), .int .u8 (d 5), .int .u8 (d 6), .int .u8 (d 7)] 24)) from (Below.refl _ _).alloc (Nat.le_refl _) _)
  rw [hk] at HC
  subst hi hr
  rcases ov_split ho with rfl | ⟨g1, g2, g3, g4⟩
  · exfalso
    have h1 : n = 0 := hn
    subst h1
    have h2 := chk_cut hk 0 (by omega)
    simp [cut, kOf] at h2
    rw [ct_zero] at hc
    simp [h2] at hc
  · have h1 : n = 1 := by rw [hn]; exact if_neg g1
    subst h1
    have t0 : (ov == 0) = false := by simpa using g1
    rw [ct_some g1] at hc
    have hc2 : ¬ (1 ≤ d 0 ∧ d 0 ≤ ov) := by simpa using hc
    by_cases h3 : d 0 < 1
    · clear h0 ho hk hn hc hc2 g1 g3 g4
      obtain ⟨c0, c1, c2, c3, c4, c5, c6, c7, c8, c9, c10⟩ := HF.out.cells
      go_enter Try.func21, Try.ntmps21
      go_wp2_with (go_at_call 36; refine (HC.out _).mono ?_; rintro e w1 ⟨rfl, hb1⟩; have HF1 := Lib.hid (HF.out.below hb1 HF.out.lt); have HB1 := Lib.hid (HB.out.trans (hb1.mono HB.out.size)); clear hb1 c0 c1 c2 c3 c4 c5 c6 c7 c8 c9 c10; obtain ⟨c0, c1, c2, c3, c4, c5, c6, c7, c8, c9, c10⟩ := HF1.out.cells)
      all_goals first | (go_ret2; exact ⟨rfl, HB1.out⟩) | (trace_state; sorry)
    · have h4 : ov < d 0 := by omega
      clear h0 ho hk hn hc hc2 g1 g3 g4
      obtain ⟨c0, c1, c2, c3, c4, c5, c6, c7, c8, c9, c10⟩ := HF.out.cells
      go_enter Try.func21, Try.ntmps21
      go_wp2_with (go_at_call 36; refine (HC.out _).mono ?_; rintro e w1 ⟨rfl, hb1⟩; have HF1 := Lib.hid (HF.out.below hb1 HF.out.lt); have HB1 := Lib.hid (HB.out.trans (hb1.mono HB.out.size)); clear hb1 c0 c1 c2 c3 c4 c5 c6 c7 c8 c9 c10; obtain ⟨c0, c1, c2, c3, c4, c5, c6, c7, c8, c9, c10⟩ := HF1.out.cells)
      all_goals first | (go_ret2; exact ⟨rfl, HB1.out⟩) | (trace_state; sorry)
set_option maxRecDepth 100000 in
set_option maxHeartbeats 4000000 in
theorem rhear_ok (ov id n : Int) (r : Bool) (d : Nat → Int) (w : World) (h0 : 0 ≤ d 0 ∧ d 0 ≤ 255) (ho : isOv ov = true) (hk : chk id r n d = 0) (hi : id = 128) (hr : r = false) (hn : n = lenO ov) (hc : isCt (d 0) ov = true) : Calls Try.prog 21 #[.int .i64 ov, .agg #[.int .i64 id, .bool r, .int .i64 n, .int .u8 (d 0), .int .u8 (d 1), .int .u8 (d 2), .int .u8 (d 3), .int .u8 (d 4), .int .u8 (d 5), .int .u8 (d 6), .int .u8 (d 7)]] w fun e w' => e = .returned (.tuple #[.int .i64 (d 0), .int .i64 0]) ∧ Below w.heap.size w w' := by
  have e1 : IntKind.i64.wrap (d 0) = d 0 := IntWalk.i64_in _ (by omega)
  have HC := Lib.hid (fun w => dcheck_any id n r d w)
  have HF := Lib.hid (frame_new w id n r d)
  have HB := Lib.hid (show Below w.heap.size w (w.alloc (.cells #[.int .i64 id, .bool r, .int .i64 n, .int .u8 (d 0), .int .u8 (d 1), .int .u8 (d 2), .int .u8 (d 3), .int .u8 (d 4), .int .u8 (d 5), .int .u8 (d 6), .int .u8 (d 7)] 24)) from (Below.refl _ _).alloc (Nat.le_refl _) _)
  rw [hk] at HC
  subst hi hr
  rcases ov_split ho with rfl | ⟨g1, g2, g3, g4⟩
  · have h1 : n = 0 := hn
    subst h1
    clear h0 ho hk hn hc
    obtain ⟨c0, c1, c2, c3, c4, c5, c6, c7, c8, c9, c10⟩ := HF.out.cells
    go_enter Try.func21, Try.ntmps21
    go_wp2_with (go_at_call 36; refine (HC.out _).mono ?_; rintro e w1 ⟨rfl, hb1⟩; have HF1 := Lib.hid (HF.out.below hb1 HF.out.lt); have HB1 := Lib.hid (HB.out.trans (hb1.mono HB.out.size)); clear hb1 c0 c1 c2 c3 c4 c5 c6 c7 c8 c9 c10; obtain ⟨c0, c1, c2, c3, c4, c5, c6, c7, c8, c9, c10⟩ := HF1.out.cells)
    all_goals first | (go_ret2; exact ⟨rfl, HB1.out⟩) | (trace_state; sorry)
  · have h1 : n = 1 := by rw [hn]; exact if_neg g1
    subst h1
    have t0 : (ov == 0) = false := by simpa using g1
    rw [ct_some g1] at hc
    have hc2 : 1 ≤ d 0 ∧ d 0 ≤ ov := by simpa using hc
    have h3 : ¬ d 0 < 1 := by omega
    have h4 : ¬ ov < d 0 := by omega
    clear h0 ho hk hn hc hc2 g1 g3 g4
    obtain ⟨c0, c1, c2, c3, c4, c5, c6, c7, c8, c9, c10⟩ := HF.out.cells
    go_enter Try.func21, Try.ntmps21
    go_wp2_with (go_at_call 36; refine (HC.out _).mono ?_; rintro e w1 ⟨rfl, hb1⟩; have HF1 := Lib.hid (HF.out.below hb1 HF.out.lt); have HB1 := Lib.hid (HB.out.trans (hb1.mono HB.out.size)); clear hb1 c0 c1 c2 c3 c4 c5 c6 c7 c8 c9 c10; obtain ⟨c0, c1, c2, c3, c4, c5, c6, c7, c8, c9, c10⟩ := HF1.out.cells)
    all_goals first | (go_ret2; exact ⟨rfl, HB1.out⟩) | (trace_state; sorry)
theorem rhear_any (ov id n : Int) (r : Bool) (d : Nat → Int) (w : World) (h0 : 0 ≤ d 0 ∧ d 0 ≤ 255) (ho : isOv ov = true) : Calls Try.prog 21 #[.int .i64 ov, .agg #[.int .i64 id, .bool r, .int .i64 n, .int .u8 (d 0), .int .u8 (d 1), .int .u8 (d 2), .int .u8 (d 3), .int .u8 (d 4), .int .u8 (d 5), .int .u8 (d 6), .int .u8 (d 7)]] w fun e w' => e = .returned (.tuple #[.int .i64 (if heE ov id r n d = 0 then d 0 else 0), .int .i64 (heE ov id r n d)]) ∧ Below w.heap.size w w' := by
  rcases he_cases ov id r n d with ⟨h1, e⟩ | ⟨h1, h2, e⟩ | ⟨h1, h2, h3, e⟩ | ⟨h1, h2, h3, h4, e⟩ | ⟨h1, h2, h3, h4, h5, e⟩ | ⟨h1, h2, h3, h4, h5, e⟩
  · rw [e]; exact rhear_chk ov id n r d w h0 ho h1
  · rw [e]; exact rhear_id ov id n r d w h0 ho h1 h2
  · rw [e]; exact rhear_rtr ov id n r d w h0 ho h1 h2 h3
  · rw [e]; exact rhear_len ov id n r d w h0 ho h1 h2 h3 h4
  · rw [e]; exact rhear_cnt ov id n r d w h0 ho h1 h2 h3 h4 h5
  · rw [e]; exact rhear_ok ov id n r d w h0 ho h1 h2 h3 h4 h5
theorem hear_bad (g : Nat) (ov hh gp la id n : Int) (r : Bool) (d : Nat → Int) (w : World) (h0 : 0 ≤ d 0 ∧ d 0 ≤ 255) (he : EarAt w g ov hh gp la) (hz : ¬ heE ov id r n d = 0) : Calls Try.prog 17 #[.pointer (some ⟨g, 0, none⟩), .agg #[.int .i64 id, .bool r, .int .i64 n, .int .u8 (d 0), .int .u8 (d 1), .int .u8 (d 2), .int .u8 (d 3), .int .u8 (d 4), .int .u8 (d 5), .int .u8 (d 6), .int .u8 (d 7)]] w fun e w' => e = .returned (.int .i64 (heE ov id r n d)) ∧ Below w.heap.size w w' := by
  rcases he_cases ov id r n d with ⟨h1, e⟩ | ⟨h1, h2, e⟩ | ⟨h1, h2, h3, e⟩ | ⟨h1, h2, h3, h4, e⟩ | ⟨h1, h2, h3, h4, h5, e⟩ | ⟨h1, h2, h3, h4, h5, e⟩
  · rw [e]; exact hear_chk g ov hh gp la id n r d w h0 he h1
  · rw [e]; exact hear_id g ov hh gp la id n r d w h0 he h1 h2
  · rw [e]; exact hear_rtr g ov hh gp la id n r d w h0 he h1 h2 h3
  · rw [e]; exact hear_len g ov hh gp la id n r d w h0 he h1 h2 h3 h4
  · rw [e]; exact hear_cnt g ov hh gp la id n r d w h0 he h1 h2 h3 h4 h5
  · exact absurd e hz
def gapP (ov h la x : Int) : Bool := decide (0 < h ∧ ¬ x = bhE la ov)
theorem hear_ok (g : Nat) (ov hh gp la id n : Int) (r : Bool) (d : Nat → Int) (w : World) (h0 : 0 ≤ d 0 ∧ d 0 ≤ 255) (ho : isOv ov = true) (he : EarAt w g ov hh gp la) (hz : heE ov id r n d = 0) (hh0 : 0 ≤ hh) (hh1 : hh ≤ 1000000) (hg0 : 0 ≤ gp) (hg1 : gp ≤ 1000000) (hl : 0 ≤ la) :
    Calls Try.prog 17 #[.pointer (some ⟨g, 0, none⟩), .agg #[.int .i64 id, .bool r, .int .i64 n, .int .u8 (d 0), .int .u8 (d 1), .int .u8 (d 2), .int .u8 (d 3), .int .u8 (d 4), .int .u8 (d 5), .int .u8 (d 6), .int .u8 (d 7)]] w fun e w' => e = .returned (.int .i64 0) ∧ EarAt w' g ov (hh + 1) (if gapP ov hh la (d 0) = true then gp + 1 else gp) (d 0) ∧ OthE w w' ∧ Below g w w' := by
  rcases he_cases ov id r n d with ⟨h1, e⟩ | ⟨h1, h2, e⟩ | ⟨h1, h2, h3, e⟩ | ⟨h1, h2, h3, h4, e⟩ | ⟨h1, h2, h3, h4, h5, e⟩ | ⟨h1, h2, h3, h4, h5, e⟩
  · rw [e] at hz; omega
  · rw [e] at hz; omega
  · rw [e] at hz; omega
  · rw [e] at hz; omega
  · rw [e] at hz; omega
  · by_cases a : hh = 0
    · subst a
      rw [show gapP ov 0 la (d 0) = false by simp [gapP]]
      exact hear_first g ov gp la id n r d w h0 he h1 h2 h3 h4 h5 hg0 hg1
    · by_cases b : d 0 = bhE la ov
      · rw [show gapP ov hh la (d 0) = false by simp [gapP, b]]
        exact hear_same g ov hh gp la id n r d w h0 he h1 h2 h3 h4 h5 hg0 hg1 _ (fun w => pbeh_any la ov w ho hl) (by omega) hh1 b
      · rw [show gapP ov hh la (d 0) = true by simp [gapP, b]; omega]
        exact hear_gap g ov hh gp la id n r d w h0 he h1 h2 h3 h4 h5 hg0 hg1 _ (fun w => pbeh_any la ov w ho hl) (by omega) hh1 b
theorem he_count {ov id n : Int} {r : Bool} {d : Nat → Int} (hz : heE ov id r n d = 0) : isCt (d 0) ov = true := by
  rcases he_cases ov id r n d with ⟨h1, e⟩ | ⟨h1, h2, e⟩ | ⟨h1, h2, h3, e⟩ | ⟨h1, h2, h3, h4, e⟩ | ⟨h1, h2, h3, h4, h5, e⟩ | ⟨h1, h2, h3, h4, h5, e⟩
  · rw [e] at hz; omega
  · rw [e] at hz; omega
  · rw [e] at hz; omega
  · rw [e] at hz; omega
  · rw [e] at hz; omega
  · exact h5
/-- The next count, as the document reckons it; how many of the first counts are not the next one. -/
def nxE (ov p : Int) : Int := if ov < p + 1 then 1 else p + 1
def gpB (ov : Int) (L : List Int) (j : Nat) : Bool := decide (0 < ov ∧ ¬ L.getD j 0 = nxE ov (L.getD (j - 1) 0))
def gpN (ov : Int) (L : List Int) : Nat → Int | 0 => 0 | j + 1 => gpN ov L j + (if 1 ≤ j ∧ gpB ov L j = true then 1 else 0)
theorem gpN_bd (ov : Int) (L : List Int) (j : Nat) : 0 ≤ gpN ov L j ∧ gpN ov L j ≤ j := by
  induction j with
  | zero => simp [gpN]
  | succ j ih => unfold gpN; split <;> omega
theorem gpN_app (ov : Int) (L : List Int) (x : Int) (j : Nat) (h : j ≤ L.length) : gpN ov (L ++ [x]) j = gpN ov L j := by
  induction j with
  | zero => rfl
  | succ j ih =>
    unfold gpN
    rw [ih (by omega)]
    have e1 : (L ++ [x]).getD j 0 = L.getD j 0 := by simp [List.getD, List.getElem?_append_left (show j < L.length by omega)]
    have e2 : (L ++ [x]).getD (j - 1) 0 = L.getD (j - 1) 0 := by simp [List.getD, List.getElem?_append_left (show j - 1 < L.length by omega)]
    unfold gpB
    rw [e1, e2]
theorem gpN_step (ov : Int) (L : List Int) (x : Int) (ho : isOv ov = true) (hx : isCt x ov = true) (hL : ∀ y ∈ L, isCt y ov = true) :
    gpN ov (L ++ [x]) (L ++ [x]).length = (if gapP ov L.length (L.getD (L.length - 1) 0) x = true then gpN ov L L.length + 1 else gpN ov L L.length) := by
  rw [List.length_append, show [x].length = 1 from rfl]
  show gpN ov (L ++ [x]) L.length + _ = _
  rw [gpN_app _ _ _ _ (Nat.le_refl _)]
  have e1 : (L ++ [x]).getD L.length 0 = x := by simp [List.getD]
  by_cases h0 : L.length = 0
  · have h1 : ¬ (1 ≤ L.length ∧ gpB ov (L ++ [x]) L.length = true) := by omega
    rw [if_neg h1, show gapP ov L.length (L.getD (L.length - 1) 0) x = false by simp [gapP]; intro h; omega]
    simp
  · have e2 : (L ++ [x]).getD (L.length - 1) 0 = L.getD (L.length - 1) 0 := by simp [List.getD, List.getElem?_append_left (show L.length - 1 < L.length by omega)]
    have hm : L.getD (L.length - 1) 0 ∈ L := by
      rw [List.getD, List.getElem?_eq_getElem (show L.length - 1 < L.length by omega)]
      exact List.getElem_mem _
    have hla := hL _ hm
    have hb : gpB ov (L ++ [x]) L.length = gapP ov L.length (L.getD (L.length - 1) 0) x := by
      unfold gpB gapP
      rw [e1, e2]
      generalize L.getD (L.length - 1) 0 = la at *
      rcases ov_in ho with rfl | ⟨h1, _⟩
      · rcases ct_in hx with ⟨_, rfl⟩ | ⟨h, _⟩
        · simp [bhE]
        · exact absurd rfl h
      · rcases ct_in hla with ⟨h, _⟩ | ⟨_, h2, h3⟩
        · omega
        · have hn : nxE ov la = bhE la ov := by
            unfold nxE bhE
            rw [if_neg (show ¬ ov = 0 by omega)]
            by_cases hq : la = ov
            · subst hq; rw [if_pos (by omega), Int.emod_self]; omega
            · rw [if_neg (by omega), Int.emod_eq_of_lt (by omega) (by omega)]
          rw [hn]
          have : (0 : Int) < L.length := by omega
          have h4 : 0 < ov := by omega
          simp only [this, h4, true_and]
    rw [hb]
    cases gapP ov L.length (L.getD (L.length - 1) 0) x with
    | true => rw [if_pos ⟨by omega, rfl⟩, if_pos rfl]
    | false => rw [if_neg (by simp), if_neg (by simp)]; omega
set_option maxRecDepth 100000 in
set_option maxHeartbeats 4000000 in
theorem rgaps_any (ov : Int) (A : Option Addr) (n c : Nat) (L : List Int) (w : World) (h : Nums w w.heap.size A n c L) (hL : ∀ x ∈ L, 0 ≤ x ∧ x ≤ 255) (ho0 : 0 ≤ ov) (ho1 : ov ≤ 240) (hn : n ≤ 1000) :
    Calls Try.prog 22 #[.int .i64 ov, .slice A n c] w fun e w' => e = .returned (.int .i64 (gpN ov L n)) ∧ w = w' := by
  have hcap := h.cap
  have hmax := h.max
  simp only [maxLen] at hmax
  have HL := Lib.hid h
  have HR := Lib.hid (show ∀ j, 0 ≤ L.getD j 0 ∧ L.getD j 0 ≤ 255 from fun j => by
    by_cases hj : j < L.length
    · rw [List.getD, List.getElem?_eq_getElem hj]; exact hL _ (List.getElem_mem hj)
    · simp [List.getD, List.getElem?_eq_none (Nat.le_of_not_lt hj)])
  have HG := Lib.hid (gpN_bd ov L)
  clear h hL
  go_enter Try.func22, Try.ntmps22
  go_wp2_with fail
  go_loopw [5, 6] (fun s i wr => wr = w ∧ ∃ j : Nat, 1 ≤ j ∧ (j ≤ n ∨ (n = 0 ∧ j = 1)) ∧ s = .int .i64 (gpN ov L j) ∧ i = .int .i64 j) (fun _ i _ => 1001 - (intOf i).toNat)
  case atStart => exact ⟨rfl, 1, by omega, by omega, rfl, rfl⟩
  case round =>
    obtain ⟨rfl, j, hj1, hj2, rfl, rfl⟩ := hrel
    obtain ⟨k, rfl⟩ : ∃ k, j = k + 1 := ⟨j - 1, by omega⟩
    by_cases hlt : k + 1 < n
    · obtain ⟨b, off, rfl, _, hc⟩ := HL.out.cells (by omega)
      have d0 := hc k (by omega)
      have d1 := hc (k + 1) hlt
      have r0 := HR.out k
      have r1 := HR.out (k + 1)
      have g0 := HG.out (k + 1)
      have e1 : IntKind.i64.wrap (((k + 1 : Nat) : Int) - 1) = (k : Int) := by rw [show ((k + 1 : Nat) : Int) - 1 = (k : Int) by omega]; exact IntWalk.i64_in _ (by omega)
      have hg : gpN ov L (k + 1 + 1) = gpN ov L (k + 1) + (if 1 ≤ k + 1 ∧ gpB ov L (k + 1) = true then 1 else 0) := rfl
      have hgb : gpB ov L (k + 1) = decide (0 < ov ∧ ¬ L.getD (k + 1) 0 = nxE ov (L.getD k 0)) := rfl
      have hltI : ((k + 1 : Nat) : Int) < (n : Int) := by omega
      have HGG := Lib.hid hg
      have HGB := Lib.hid hgb
      clear hg hgb hc
      generalize gpN ov L (k + 1) = G at *
      generalize L.getD (k + 1) 0 = y at *
      generalize L.getD k 0 = x at *
      have e2 : IntKind.i64.wrap (x + 1) = x + 1 := IntWalk.i64_in _ (by omega)
      have e3 : IntKind.i64.wrap (G + 1) = G + 1 := IntWalk.i64_in _ (by omega)
      obtain ⟨z, hz⟩ : ∃ z, nxE ov x = z := ⟨_, rfl⟩
      rw [hz] at HGB
      have HZ : Hid ((ov < x + 1 ∧ z = 1) ∨ (¬ ov < x + 1 ∧ z = x + 1)) := Lib.hid (by
        unfold nxE at hz
        by_cases q : ov < x + 1
        · rw [if_pos q] at hz; exact .inl ⟨q, hz.symm⟩
        · rw [if_neg q] at hz; exact .inr ⟨q, hz.symm⟩)
      have HC : Hid ((0 < ov ∧ ¬ y = z ∧ gpN ov L (k + 1 + 1) = G + 1) ∨ (0 < ov ∧ y = z ∧ gpN ov L (k + 1 + 1) = G) ∨ (¬ 0 < ov ∧ gpN ov L (k + 1 + 1) = G)) := Lib.hid (by
        have h1 := HGG.out
        rw [HGB.out] at h1
        by_cases a : 0 < ov
        · by_cases b : y = z
          · refine .inr (.inl ⟨a, b, ?_⟩); rw [h1, if_neg (by simp [b])]; omega
          · refine .inl ⟨a, b, ?_⟩; rw [h1, if_pos ⟨by omega, by simp [a, b]⟩]
        · refine .inr (.inr ⟨a, ?_⟩); rw [h1, if_neg (by simp [a])]; omega)
      clear HGG HGB hz g0 r0 r1 HR HG HL
      rcases HZ.out with ⟨z1, z2⟩ | ⟨z1, z2⟩
      all_goals
        clear HZ
        rcases HC.out with ⟨a, b1, b2⟩ | ⟨a, b1, b2⟩ | ⟨a, b2⟩
        all_goals
          have HK := Lib.hid b2
          clear HC b2
          subst z2
          try subst b1
          go_wp2_with fail
          go_roundw
          case rel => exact ⟨by first | trivial | rfl, k + 1 + 1, by omega, .inl (by omega), by rw [HK.out], by go_num⟩
          case measure => simp [intOf]; omega
    · have hge : ¬ ((k + 1 : Nat) : Int) < (n : Int) := by omega
      have HK := Lib.hid (show gpN ov L (k + 1) = gpN ov L n from by
        rcases hj2 with h | ⟨h1, h2⟩
        · rw [show k + 1 = n by omega]
        · obtain rfl : k = 0 := by omega
          subst h1; simp [gpN])
      generalize gpN ov L (k + 1) = G at *
      clear HL HR HG
      go_wp2_with fail
      go_ret
      exact ⟨by rw [HK.out]; rfl, rfl⟩
theorem ron_none (ov rate : Int) (A : Option Addr) (c : Nat) (w : World) : Calls Try.prog 23 #[.int .i64 ov, .slice A 0 c, .int .i64 rate] w fun e w' => e = .returned (.bool false) ∧ w = w' := by
  go_enter Try.func23, Try.ntmps23
  go_wp2_with fail
  all_goals first | (go_ret; exact ⟨rfl, rfl⟩) | (trace_state; sorry)
theorem ron_rate (ov rate : Int) (A : Option Addr) (n c : Nat) (w : World) (hn : 0 < n) (h1 : rate < 1 ∨ 240 < rate) : Calls Try.prog 23 #[.int .i64 ov, .slice A n c, .int .i64 rate] w fun e w' => e = .returned (.bool false) ∧ w = w' := by
  have t0 : ((n : Int) == 0) = false := by simp; omega
  have t1 : (n == 0) = false := by simp; omega
  by_cases h2 : rate < 1
  · clear h1 hn
    go_enter Try.func23, Try.ntmps23
    go_wp2_with fail
    all_goals first | (go_ret; exact ⟨rfl, rfl⟩) | (trace_state; sorry)
  · have h3 : 240 < rate := by omega
    clear h1 hn
    go_enter Try.func23, Try.ntmps23
    go_wp2_with fail
    all_goals first | (go_ret; exact ⟨rfl, rfl⟩) | (trace_state; sorry)
theorem div_mod (x r : Int) (hx : 0 ≤ x) (hr : 1 ≤ r) : (x / r * r == x) = decide (x % r = 0) := by
  have h := Int.mul_ediv_add_emod x r
  rw [Int.mul_comm r (x / r)] at h
  by_cases e : x % r = 0
  · rw [show decide (x % r = 0) = true from decide_eq_true e]; simp; omega
  · rw [show decide (x % r = 0) = false from decide_eq_false e]; simp; omega
theorem ron_zero (rate : Int) (A : Option Addr) (n c : Nat) (w : World) (hn : 0 < n) (hn1 : n ≤ 1000) (h1 : 1 ≤ rate) (h2 : rate ≤ 240) : Calls Try.prog 23 #[.int .i64 0, .slice A n c, .int .i64 rate] w fun e w' => e = .returned (.bool (decide ((n : Int) % rate = 0))) ∧ w = w' := by
  have t0 : ((n : Int) == 0) = false := by simp; omega
  have t1 : (n == 0) = false := by simp; omega
  have t2 : ¬ rate < 1 := by omega
  have t3 : ¬ 240 < rate := by omega
  have tz : ¬ rate = 0 := by omega
  obtain ⟨q, hq⟩ : ∃ q, (n : Int) / rate = q := ⟨_, rfl⟩
  have hq1 := Int.mul_ediv_self_le (x := (n : Int)) (k := rate) tz
  have hq0 : 0 ≤ q := by rw [← hq]; exact Int.ediv_nonneg (by omega) (by omega)
  have hq2 : q ≤ n := by rw [← hq]; exact Int.ediv_le_self _ (by omega)
  rw [hq, Int.mul_comm] at hq1
  have hq3 : 0 ≤ q * rate := Int.mul_nonneg hq0 (by omega)
  have e1 : IntKind.i64.wrap ((n : Int).tdiv rate) = q := by rw [Int.tdiv_eq_ediv_of_nonneg (by omega), hq]; exact IntWalk.i64_in _ (by omega)
  have e1' : IntKind.i64.wrap q = q := IntWalk.i64_in _ (by omega)
  have e3 : (n : Int).tdiv rate = q := by rw [Int.tdiv_eq_ediv_of_nonneg (by omega), hq]
  have e2 : IntKind.i64.wrap (q * rate) = q * rate := IntWalk.i64_in _ (by omega)
  have hd := div_mod (n : Int) rate (by omega) h1
  rw [hq] at hd
  obtain ⟨m, hm⟩ : ∃ m, q * rate = m := ⟨_, rfl⟩
  rw [hm] at hd e2
  have HD := Lib.hid hd
  clear hq hq1 hq0 hq2 hq3 hd h1 h2 hn
  rw [← HD.out]
  clear HD
  go_enter Try.func23, Try.ntmps23
  go_wp2_with fail
  all_goals first | (go_ret; exact ⟨rfl, rfl⟩) | (trace_state; sorry)
theorem ron_some (ov rate la : Int) (b off n c : Nat) (w : World) (ho : 0 < ov) (hn : 0 < n) (hn1 : n ≤ 1000) (h1 : 1 ≤ rate) (h2 : rate ≤ 240) (hc : w.cell? ⟨b, off + (n - 1), none⟩ = some (.int .i64 la)) (hl0 : 0 ≤ la) (hl1 : la ≤ 255) (hcap : n ≤ c) : Calls Try.prog 23 #[.int .i64 ov, .slice (some ⟨b, off, none⟩) n c, .int .i64 rate] w fun e w' => e = .returned (.bool (decide (la % rate = 0))) ∧ w = w' := by
  obtain ⟨k, rfl⟩ : ∃ k, n = k + 1 := ⟨n - 1, by omega⟩
  rw [show k + 1 - 1 = k by omega] at hc
  have e0 : IntKind.i64.wrap (((k + 1 : Nat) : Int) - 1) = (k : Int) := by rw [show ((k + 1 : Nat) : Int) - 1 = (k : Int) by omega]; exact IntWalk.i64_in _ (by omega)
  have t0 : (((k + 1 : Nat) : Int) == 0) = false := by simp; omega
  have t1 : (k + 1 == 0) = false := by simp
  have t2 : ¬ rate < 1 := by omega
  have t3 : ¬ 240 < rate := by omega
  have tz : ¬ rate = 0 := by omega
  obtain ⟨q, hq⟩ : ∃ q, la / rate = q := ⟨_, rfl⟩
  have hq1 := Int.mul_ediv_self_le (x := la) (k := rate) tz
  have hq0 : 0 ≤ q := by rw [← hq]; exact Int.ediv_nonneg (by omega) (by omega)
  have hq2 : q ≤ la := by rw [← hq]; exact Int.ediv_le_self _ (by omega)
  rw [hq, Int.mul_comm] at hq1
  have hq3 : 0 ≤ q * rate := Int.mul_nonneg hq0 (by omega)
  have e1 : IntKind.i64.wrap (la.tdiv rate) = q := by rw [Int.tdiv_eq_ediv_of_nonneg (by omega), hq]; exact IntWalk.i64_in _ (by omega)
  have e1' : IntKind.i64.wrap q = q := IntWalk.i64_in _ (by omega)
  have e3 : la.tdiv rate = q := by rw [Int.tdiv_eq_ediv_of_nonneg (by omega), hq]
  have e2 : IntKind.i64.wrap (q * rate) = q * rate := IntWalk.i64_in _ (by omega)
  have hd := div_mod la rate (by omega) h1
  rw [hq] at hd
  obtain ⟨m, hm⟩ : ∃ m, q * rate = m := ⟨_, rfl⟩
  rw [hm] at hd e2
  have HD := Lib.hid hd
  have hk : k < k + 1 := by omega
  clear hq hq1 hq0 hq2 hq3 hd h1 h2 hn
  rw [← HD.out]
  clear HD
  go_enter Try.func23, Try.ntmps23
  go_wp2_with fail
  all_goals first | (go_ret; exact ⟨rfl, rfl⟩) | (trace_state; sorry)
theorem ron_any (ov rate : Int) (A : Option Addr) (n c : Nat) (L : List Int) (w : World) (h : Nums w w.heap.size A n c L) (hL : ∀ x ∈ L, 0 ≤ x ∧ x ≤ 255) (ho : isOv ov = true) (hn : n ≤ 1000) :
    Calls Try.prog 23 #[.int .i64 ov, .slice A n c, .int .i64 rate] w fun e w' => e = .returned (.bool (onE ov n (L.getD (n - 1) 0) rate)) ∧ w = w' := by
  unfold onE
  by_cases a : n = 0
  · subst a; simpa using ron_none ov rate A c w
  · by_cases b : rate < 1 ∨ 240 < rate
    · rw [if_pos (.inr b)]; exact ron_rate ov rate A n c w (by omega) b
    · rw [if_neg (by omega)]
      by_cases e : ov = 0
      · subst e; exact ron_zero rate A n c w (by omega) hn (by omega) (by omega)
      · rw [if_neg e]
        obtain ⟨bb, off, rfl, _, hc⟩ := h.cells (by omega)
        have hl : 0 ≤ L.getD (n - 1) 0 ∧ L.getD (n - 1) 0 ≤ 255 := by
          have hj : n - 1 < L.length := by rw [h.len]; omega
          rw [List.getD, List.getElem?_eq_getElem hj]; exact hL _ (List.getElem_mem hj)
        exact ron_some ov rate _ bb off n c w (by rcases ov_in ho with h | h <;> omega) (by omega) hn (by omega) (by omega) (hc _ (by omega)) hl.1 hl.2 h.cap
end Go.Proofs.Ythofimkjemhnoaa
