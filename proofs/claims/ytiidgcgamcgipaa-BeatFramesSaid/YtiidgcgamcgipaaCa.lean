/- The walk of BeatFrames. -/
import Derived.Test.YtiidgcgamcgipaaBz
import Derived.Test.YtiidgcgamcgipaaBFrameS
namespace Go.Proofs.Ytiidgcgamcgipaa
open Go.RowKit
set_option linter.unusedSimpArgs false
set_option linter.unusedVariables false

theorem decB_own {nd m : Int} (hn : isNI nd = true) (hm : isMd m = true) : decB (1792 + nd) false 1 (dOf [m]) = true := by
  obtain ⟨h0, h1⟩ := isN_in hn
  exact (decB_iff _ 1 false (dOf [m])).2 ⟨chk_one nd m h0 h1, rfl, rfl, by omega, by omega, hm⟩
theorem dOf_one {m : Int} (h0 : 0 ≤ m) (h1 : m ≤ 255) : ∀ j, j < 8 → 0 ≤ dOf [m] j ∧ dOf [m] j ≤ 255 := by
  intro j hj
  match j with
  | 0 => exact ⟨h0, h1⟩
  | j + 1 => simp [dOf]
theorem bdec_own (nd m : Int) (w : World) (hn : isNI nd = true) (hm : isMd m = true) : Calls Try.prog 9 #[.agg #[.int .i64 (1792 + nd), .bool false, .int .i64 1, .int .u8 m, .int .u8 0, .int .u8 0, .int .u8 0, .int .u8 0, .int .u8 0, .int .u8 0, .int .u8 0]] w fun e w' => e = .returned (.tuple #[.int .i64 nd, .int .i64 m, .int .i64 0]) ∧ Below w.heap.size w w' := by
  have h0 := isM_in hm
  have h := bdec_any (1792 + nd) 1 false (dOf [m]) w (dOf_one (by omega) (by omega))
  unfold bdN bdM bdE at h
  rw [decB_own hn hm] at h
  simp only [if_true] at h
  rw [show 1792 + nd - 1792 = nd by omega] at h
  exact h
set_option maxRecDepth 100000 in
set_option maxHeartbeats 4000000 in
theorem frames_node (nd m id n : Int) (r : Bool) (d : Nat → Int) (w : World) (hd : ∀ j, j < 8 → 0 ≤ d j ∧ d j ≤ 255) (q : Bool) (hq : decB id r n d = q) (hn : isNI nd = false) :
    Calls Try.prog 3 #[.int .i64 nd, .int .i64 m, .agg #[.int .i64 id, .bool r, .int .i64 n, .int .u8 (d 0), .int .u8 (d 1), .int .u8 (d 2), .int .u8 (d 3), .int .u8 (d 4), .int .u8 (d 5), .int .u8 (d 6), .int .u8 (d 7)]] w fun e w' => e = .returned (.bool true) ∧ Below w.heap.size w w' := by
  have hdy := fun w => bdec_any id n r d w hd
  have hry := fun w => rbd_any id n r d w hd
  have he : bdE id r n d = if q = true then 0 else 4 := by unfold bdE; rw [hq]
  rw [hq] at hry
  rw [he] at hdy
  obtain ⟨E1, hE1⟩ : ∃ E1 : Int, (if q = true then (0 : Int) else 4) = E1 := ⟨_, rfl⟩
  rw [hE1] at hdy
  have HEE := Lib.hid hE1
  generalize bdN id r n d = N1 at hdy hry
  generalize bdM id r n d = M1 at hdy hry
  have HDY := Lib.hid hdy
  have HRY := Lib.hid hry
  have HE := Lib.hid (fun w => bencode_node nd m w hn)
  have hno : nd < 1 ∨ 127 < nd := by
    by_cases h0 : 1 ≤ nd
    · by_cases h1 : nd ≤ 127
      · rw [isN_yes h0 h1] at hn; cases hn
      · omega
    · omega
  clear hn
  have HS := Lib.hid (show FrAt (w.alloc (.cells #[.int .i64 id, .bool r, .int .i64 n, .int .u8 (d 0), .int .u8 (d 1), .int .u8 (d 2), .int .u8 (d 3), .int .u8 (d 4), .int .u8 (d 5), .int .u8 (d 6), .int .u8 (d 7)] 24)) w.heap.size id r n d from frame_new w id n r d)
  have HB := Lib.hid (show Below w.heap.size w (w.alloc (.cells #[.int .i64 id, .bool r, .int .i64 n, .int .u8 (d 0), .int .u8 (d 1), .int .u8 (d 2), .int .u8 (d 3), .int .u8 (d 4), .int .u8 (d 5), .int .u8 (d 6), .int .u8 (d 7)] 24)) from (Below.refl _ _).alloc (Nat.le_refl _) _)
  have tN : (N1 == N1) = true := by simp
  have tM : (M1 == M1) = true := by simp
  clear hdy hry he hd hq hE1
  go_enter Try.func3, Try.ntmps3
  go_wp2_with fail
  generalize (w.alloc (.cells #[.int .i64 id, .bool r, .int .i64 n, .int .u8 (d 0), .int .u8 (d 1), .int .u8 (d 2), .int .u8 (d 3), .int .u8 (d 4), .int .u8 (d 5), .int .u8 (d 6), .int .u8 (d 7)] 24)) = w0 at HS HB ⊢
  refine (HE.out _).mono ?_
  rintro e w1 ⟨rfl, hb1⟩
  have HS1 := Lib.hid (HS.out.below hb1 HS.out.lt)
  have HB1 := Lib.hid (HB.out.trans (hb1.mono HB.out.size))
  clear hb1 HS HB HE
  have hx3 : FrAt (w1.alloc (.cells #[.int .i64 0, .bool false, .int .i64 0, .int .u8 0, .int .u8 0, .int .u8 0, .int .u8 0, .int .u8 0, .int .u8 0, .int .u8 0, .int .u8 0] 24)) w1.heap.size 0 false 0 (fun _ => 0) := frame_new w1 0 0 false (fun _ => 0)
  have hba : Below w1.heap.size w1 (w1.alloc (.cells #[.int .i64 0, .bool false, .int .i64 0, .int .u8 0, .int .u8 0, .int .u8 0, .int .u8 0, .int .u8 0, .int .u8 0, .int .u8 0, .int .u8 0] 24)) := (Below.refl _ _).alloc (Nat.le_refl _) _
  have HX3 := Lib.hid hx3
  have HX4 := Lib.hid (show FrAt ((w1.alloc (.cells #[.int .i64 0, .bool false, .int .i64 0, .int .u8 0, .int .u8 0, .int .u8 0, .int .u8 0, .int .u8 0, .int .u8 0, .int .u8 0, .int .u8 0] 24)).setRow w1.heap.size #[.int .i64 0, .bool false, .int .i64 0, .int .u8 0, .int .u8 0, .int .u8 0, .int .u8 0, .int .u8 0, .int .u8 0, .int .u8 0, .int .u8 0]) w1.heap.size 0 false 0 (fun _ => 0) from hx3.row 0 0 false (fun _ => 0))
  have HS4 := Lib.hid ((HS1.out.below hba HS1.out.lt).row_other (Nat.ne_of_lt HS1.out.lt) #[.int .i64 0, .bool false, .int .i64 0, .int .u8 0, .int .u8 0, .int .u8 0, .int .u8 0, .int .u8 0, .int .u8 0, .int .u8 0, .int .u8 0])
  have HB4 := Lib.hid (below_setRow (HB1.out.trans (hba.mono HB1.out.size)) HB1.out.size #[.int .i64 0, .bool false, .int .i64 0, .int .u8 0, .int .u8 0, .int .u8 0, .int .u8 0, .int .u8 0, .int .u8 0, .int .u8 0, .int .u8 0])
  clear hx3 hba
  go_upto_region 5 with (refine wpList_store_row rfl _ (.tmp 7) (.tmp 22) rfl w1.heap.size _ rfl rfl _ _ HX3.out info_frame rfl (one_frame 0 0 false (fun _ => 0)) ?_)
  clear HX3 HS1 HB1
  generalize (w1.alloc (.cells #[.int .i64 0, .bool false, .int .i64 0, .int .u8 0, .int .u8 0, .int .u8 0, .int .u8 0, .int .u8 0, .int .u8 0, .int .u8 0, .int .u8 0] 24)).setRow w1.heap.size #[.int .i64 0, .bool false, .int .i64 0, .int .u8 0, .int .u8 0, .int .u8 0, .int .u8 0, .int .u8 0, .int .u8 0, .int .u8 0, .int .u8 0] = w2 at HX4 HS4 HB4 ⊢
  generalize w1.heap.size = gx at *
  have HS8 := HS4
  have HB8 := HB4
  clear HS4 HB4 HX4
  have HNO := Lib.hid (fun (Q : Prop) (hA : nd < 1 → Q) (hB : ¬ nd < 1 ∧ 127 < nd → Q) => hno.elim hA (fun h => hB ⟨by omega, h⟩))
  clear hno
  refine HNO.out _ (fun h1 => ?_) (fun h1 => ?_)
  all_goals
    clear HNO
    try obtain ⟨h1, h2⟩ := h1
    obtain ⟨f0, f1, f2, f3, f4, f5, f6, f7, f8, f9, f10⟩ := HS8.out.cells
    go_wp2_with fail
    refine (HDY.out _).mono ?_
    rintro e w9 ⟨rfl, hb9⟩
    have HS9 := Lib.hid (HS8.out.below hb9 HS8.out.lt)
    have HB9 := Lib.hid (HB8.out.trans (hb9.mono HB8.out.size))
    clear hb9 f0 f1 f2 f3 f4 f5 f6 f7 f8 f9 f10 HS8 HB8
    obtain ⟨f0, f1, f2, f3, f4, f5, f6, f7, f8, f9, f10⟩ := HS9.out.cells
    go_wp2_with fail
    refine (HRY.out _).mono ?_
    rintro e w10 ⟨rfl, hb10⟩
    have HB10 := Lib.hid (HB9.out.trans (hb10.mono HB9.out.size))
    clear hb10 f0 f1 f2 f3 f4 f5 f6 f7 f8 f9 f10 HS9 HB9
    cases q
    all_goals
      have e1 := HEE.out
      simp only [if_true, if_false, Bool.false_eq_true] at e1
      subst e1
      go_wp2_with (go_at_call 12; refine (live22_any _).mono ?_; rintro e w11 ⟨rfl, hb11⟩)
      first | (go_ret; exact ⟨rfl, HB10.out.trans (hb11.mono HB10.out.size)⟩) | (trace_state; sorry)
set_option maxRecDepth 100000 in
set_option maxHeartbeats 4000000 in
theorem frames_mode (nd m id n : Int) (r : Bool) (d : Nat → Int) (w : World) (hd : ∀ j, j < 8 → 0 ≤ d j ∧ d j ≤ 255) (q : Bool) (hq : decB id r n d = q) (hn : isNI nd = true) (hm : isMd m = false) :
    Calls Try.prog 3 #[.int .i64 nd, .int .i64 m, .agg #[.int .i64 id, .bool r, .int .i64 n, .int .u8 (d 0), .int .u8 (d 1), .int .u8 (d 2), .int .u8 (d 3), .int .u8 (d 4), .int .u8 (d 5), .int .u8 (d 6), .int .u8 (d 7)]] w fun e w' => e = .returned (.bool true) ∧ Below w.heap.size w w' := by
  have hdy := fun w => bdec_any id n r d w hd
  have hry := fun w => rbd_any id n r d w hd
  have he : bdE id r n d = if q = true then 0 else 4 := by unfold bdE; rw [hq]
  rw [hq] at hry
  rw [he] at hdy
  obtain ⟨E1, hE1⟩ : ∃ E1 : Int, (if q = true then (0 : Int) else 4) = E1 := ⟨_, rfl⟩
  rw [hE1] at hdy
  have HEE := Lib.hid hE1
  generalize bdN id r n d = N1 at hdy hry
  generalize bdM id r n d = M1 at hdy hry
  have HDY := Lib.hid hdy
  have HRY := Lib.hid hry
  have HE := Lib.hid (fun w => bencode_mode nd m w hn hm)
  have hr := isN_in hn
  obtain ⟨hr0, hr1⟩ := hr
  have hr2 : ¬ nd < 1 := by omega
  have hr3 : ¬ 127 < nd := by omega
  have hrm := rmode_any m
  rw [hm] at hrm
  have HRM := Lib.hid hrm
  clear hrm
  clear hn hm
  have HS := Lib.hid (show FrAt (w.alloc (.cells #[.int .i64 id, .bool r, .int .i64 n, .int .u8 (d 0), .int .u8 (d 1), .int .u8 (d 2), .int .u8 (d 3), .int .u8 (d 4), .int .u8 (d 5), .int .u8 (d 6), .int .u8 (d 7)] 24)) w.heap.size id r n d from frame_new w id n r d)
  have HB := Lib.hid (show Below w.heap.size w (w.alloc (.cells #[.int .i64 id, .bool r, .int .i64 n, .int .u8 (d 0), .int .u8 (d 1), .int .u8 (d 2), .int .u8 (d 3), .int .u8 (d 4), .int .u8 (d 5), .int .u8 (d 6), .int .u8 (d 7)] 24)) from (Below.refl _ _).alloc (Nat.le_refl _) _)
  have tN : (N1 == N1) = true := by simp
  have tM : (M1 == M1) = true := by simp
  clear hdy hry he hd hq hE1
  go_enter Try.func3, Try.ntmps3
  go_wp2_with fail
  generalize (w.alloc (.cells #[.int .i64 id, .bool r, .int .i64 n, .int .u8 (d 0), .int .u8 (d 1), .int .u8 (d 2), .int .u8 (d 3), .int .u8 (d 4), .int .u8 (d 5), .int .u8 (d 6), .int .u8 (d 7)] 24)) = w0 at HS HB ⊢
  refine (HE.out _).mono ?_
  rintro e w1 ⟨rfl, hb1⟩
  have HS1 := Lib.hid (HS.out.below hb1 HS.out.lt)
  have HB1 := Lib.hid (HB.out.trans (hb1.mono HB.out.size))
  clear hb1 HS HB HE
  have hx3 : FrAt (w1.alloc (.cells #[.int .i64 0, .bool false, .int .i64 0, .int .u8 0, .int .u8 0, .int .u8 0, .int .u8 0, .int .u8 0, .int .u8 0, .int .u8 0, .int .u8 0] 24)) w1.heap.size 0 false 0 (fun _ => 0) := frame_new w1 0 0 false (fun _ => 0)
  have hba : Below w1.heap.size w1 (w1.alloc (.cells #[.int .i64 0, .bool false, .int .i64 0, .int .u8 0, .int .u8 0, .int .u8 0, .int .u8 0, .int .u8 0, .int .u8 0, .int .u8 0, .int .u8 0] 24)) := (Below.refl _ _).alloc (Nat.le_refl _) _
  have HX3 := Lib.hid hx3
  have HX4 := Lib.hid (show FrAt ((w1.alloc (.cells #[.int .i64 0, .bool false, .int .i64 0, .int .u8 0, .int .u8 0, .int .u8 0, .int .u8 0, .int .u8 0, .int .u8 0, .int .u8 0, .int .u8 0] 24)).setRow w1.heap.size #[.int .i64 0, .bool false, .int .i64 0, .int .u8 0, .int .u8 0, .int .u8 0, .int .u8 0, .int .u8 0, .int .u8 0, .int .u8 0, .int .u8 0]) w1.heap.size 0 false 0 (fun _ => 0) from hx3.row 0 0 false (fun _ => 0))
  have HS4 := Lib.hid ((HS1.out.below hba HS1.out.lt).row_other (Nat.ne_of_lt HS1.out.lt) #[.int .i64 0, .bool false, .int .i64 0, .int .u8 0, .int .u8 0, .int .u8 0, .int .u8 0, .int .u8 0, .int .u8 0, .int .u8 0, .int .u8 0])
  have HB4 := Lib.hid (below_setRow (HB1.out.trans (hba.mono HB1.out.size)) HB1.out.size #[.int .i64 0, .bool false, .int .i64 0, .int .u8 0, .int .u8 0, .int .u8 0, .int .u8 0, .int .u8 0, .int .u8 0, .int .u8 0, .int .u8 0])
  clear hx3 hba
  go_upto_region 5 with (refine wpList_store_row rfl _ (.tmp 7) (.tmp 22) rfl w1.heap.size _ rfl rfl _ _ HX3.out info_frame rfl (one_frame 0 0 false (fun _ => 0)) ?_)
  clear HX3 HS1 HB1
  generalize (w1.alloc (.cells #[.int .i64 0, .bool false, .int .i64 0, .int .u8 0, .int .u8 0, .int .u8 0, .int .u8 0, .int .u8 0, .int .u8 0, .int .u8 0, .int .u8 0] 24)).setRow w1.heap.size #[.int .i64 0, .bool false, .int .i64 0, .int .u8 0, .int .u8 0, .int .u8 0, .int .u8 0, .int .u8 0, .int .u8 0, .int .u8 0, .int .u8 0] = w2 at HX4 HS4 HB4 ⊢
  generalize w1.heap.size = gx at *
  go_upto_region 11 with (go_at_call 8; refine (HRM.out _).mono ?_; rintro e w3 ⟨rfl, rfl⟩)
  have HS8 := HS4
  have HB8 := HB4
  clear HS4 HB4 HX4 HRM
  obtain ⟨f0, f1, f2, f3, f4, f5, f6, f7, f8, f9, f10⟩ := HS8.out.cells
  go_wp2_with fail
  refine (HDY.out _).mono ?_
  rintro e w9 ⟨rfl, hb9⟩
  have HS9 := Lib.hid (HS8.out.below hb9 HS8.out.lt)
  have HB9 := Lib.hid (HB8.out.trans (hb9.mono HB8.out.size))
  clear hb9 f0 f1 f2 f3 f4 f5 f6 f7 f8 f9 f10 HS8 HB8
  obtain ⟨f0, f1, f2, f3, f4, f5, f6, f7, f8, f9, f10⟩ := HS9.out.cells
  go_wp2_with fail
  refine (HRY.out _).mono ?_
  rintro e w10 ⟨rfl, hb10⟩
  have HB10 := Lib.hid (HB9.out.trans (hb10.mono HB9.out.size))
  clear hb10 f0 f1 f2 f3 f4 f5 f6 f7 f8 f9 f10 HS9 HB9
  cases q
  all_goals
    have e1 := HEE.out
    simp only [if_true, if_false, Bool.false_eq_true] at e1
    subst e1
    go_wp2_with (go_at_call 12; refine (live22_any _).mono ?_; rintro e w11 ⟨rfl, hb11⟩)
    first | (go_ret; exact ⟨rfl, HB10.out.trans (hb11.mono HB10.out.size)⟩) | (trace_state; sorry)
set_option maxRecDepth 100000 in
set_option maxHeartbeats 4000000 in
theorem frames_ok (nd m id n : Int) (r : Bool) (d : Nat → Int) (w : World) (hd : ∀ j, j < 8 → 0 ≤ d j ∧ d j ≤ 255) (q : Bool) (hq : decB id r n d = q) (hn : isNI nd = true) (hm : isMd m = true) :
    Calls Try.prog 3 #[.int .i64 nd, .int .i64 m, .agg #[.int .i64 id, .bool r, .int .i64 n, .int .u8 (d 0), .int .u8 (d 1), .int .u8 (d 2), .int .u8 (d 3), .int .u8 (d 4), .int .u8 (d 5), .int .u8 (d 6), .int .u8 (d 7)]] w fun e w' => e = .returned (.bool true) ∧ Below w.heap.size w w' := by
  have hdy := fun w => bdec_any id n r d w hd
  have hry := fun w => rbd_any id n r d w hd
  have he : bdE id r n d = if q = true then 0 else 4 := by unfold bdE; rw [hq]
  rw [hq] at hry
  rw [he] at hdy
  obtain ⟨E1, hE1⟩ : ∃ E1 : Int, (if q = true then (0 : Int) else 4) = E1 := ⟨_, rfl⟩
  rw [hE1] at hdy
  have HEE := Lib.hid hE1
  generalize bdN id r n d = N1 at hdy hry
  generalize bdM id r n d = M1 at hdy hry
  have HDY := Lib.hid hdy
  have HRY := Lib.hid hry
  have HE := Lib.hid (fun w => bencode_yes nd m w hn hm)
  have hr := isN_in hn
  obtain ⟨hr0, hr1⟩ := hr
  have hr2 : ¬ nd < 1 := by omega
  have hr3 : ¬ 127 < nd := by omega
  have hrm := rmode_any m
  rw [hm] at hrm
  have HRM := Lib.hid hrm
  clear hrm
  have HRE := Lib.hid (fun w => rbencode_any nd m w hr0 hr1 hm)
  have HDX := Lib.hid (fun w => bdec_own nd m w hn hm)
  have HQX := Lib.hid (show ∀ w, (Op.equalIn 10000 24 (.agg #[.int .i64 (1792 + nd), .bool false, .int .i64 1, .int .u8 m, .int .u8 0, .int .u8 0, .int .u8 0, .int .u8 0, .int .u8 0, .int .u8 0, .int .u8 0]) (.agg #[.int .i64 (1792 + nd), .bool false, .int .i64 1, .int .u8 m, .int .u8 0, .int .u8 0, .int .u8 0, .int .u8 0, .int .u8 0, .int .u8 0, .int .u8 0])).run Try.prog w = .ok true w from fun w => (run_eq_frames w (1792 + nd) (1792 + nd) 1 1 false false (dOf [m]) (dOf [m])).trans (by simp [eqD]))
  clear hn hm
  have HS := Lib.hid (show FrAt (w.alloc (.cells #[.int .i64 id, .bool r, .int .i64 n, .int .u8 (d 0), .int .u8 (d 1), .int .u8 (d 2), .int .u8 (d 3), .int .u8 (d 4), .int .u8 (d 5), .int .u8 (d 6), .int .u8 (d 7)] 24)) w.heap.size id r n d from frame_new w id n r d)
  have HB := Lib.hid (show Below w.heap.size w (w.alloc (.cells #[.int .i64 id, .bool r, .int .i64 n, .int .u8 (d 0), .int .u8 (d 1), .int .u8 (d 2), .int .u8 (d 3), .int .u8 (d 4), .int .u8 (d 5), .int .u8 (d 6), .int .u8 (d 7)] 24)) from (Below.refl _ _).alloc (Nat.le_refl _) _)
  have tN : (N1 == N1) = true := by simp
  have tM : (M1 == M1) = true := by simp
  clear hdy hry he hd hq hE1
  go_enter Try.func3, Try.ntmps3
  go_wp2_with fail
  generalize (w.alloc (.cells #[.int .i64 id, .bool r, .int .i64 n, .int .u8 (d 0), .int .u8 (d 1), .int .u8 (d 2), .int .u8 (d 3), .int .u8 (d 4), .int .u8 (d 5), .int .u8 (d 6), .int .u8 (d 7)] 24)) = w0 at HS HB ⊢
  refine (HE.out _).mono ?_
  rintro e w1 ⟨rfl, hb1⟩
  have HS1 := Lib.hid (HS.out.below hb1 HS.out.lt)
  have HB1 := Lib.hid (HB.out.trans (hb1.mono HB.out.size))
  clear hb1 HS HB HE
  have hx3 : FrAt (w1.alloc (.cells #[.int .i64 0, .bool false, .int .i64 0, .int .u8 0, .int .u8 0, .int .u8 0, .int .u8 0, .int .u8 0, .int .u8 0, .int .u8 0, .int .u8 0] 24)) w1.heap.size 0 false 0 (fun _ => 0) := frame_new w1 0 0 false (fun _ => 0)
  have hba : Below w1.heap.size w1 (w1.alloc (.cells #[.int .i64 0, .bool false, .int .i64 0, .int .u8 0, .int .u8 0, .int .u8 0, .int .u8 0, .int .u8 0, .int .u8 0, .int .u8 0, .int .u8 0] 24)) := (Below.refl _ _).alloc (Nat.le_refl _) _
  have HX3 := Lib.hid hx3
  have HX4 := Lib.hid (show FrAt ((w1.alloc (.cells #[.int .i64 0, .bool false, .int .i64 0, .int .u8 0, .int .u8 0, .int .u8 0, .int .u8 0, .int .u8 0, .int .u8 0, .int .u8 0, .int .u8 0] 24)).setRow w1.heap.size #[.int .i64 (1792 + nd), .bool false, .int .i64 1, .int .u8 m, .int .u8 0, .int .u8 0, .int .u8 0, .int .u8 0, .int .u8 0, .int .u8 0, .int .u8 0]) w1.heap.size (1792 + nd) false 1 (dOf [m]) from hx3.row (1792 + nd) 1 false (dOf [m]))
  have HS4 := Lib.hid ((HS1.out.below hba HS1.out.lt).row_other (Nat.ne_of_lt HS1.out.lt) #[.int .i64 (1792 + nd), .bool false, .int .i64 1, .int .u8 m, .int .u8 0, .int .u8 0, .int .u8 0, .int .u8 0, .int .u8 0, .int .u8 0, .int .u8 0])
  have HB4 := Lib.hid (below_setRow (HB1.out.trans (hba.mono HB1.out.size)) HB1.out.size #[.int .i64 (1792 + nd), .bool false, .int .i64 1, .int .u8 m, .int .u8 0, .int .u8 0, .int .u8 0, .int .u8 0, .int .u8 0, .int .u8 0, .int .u8 0])
  clear hx3 hba
  go_upto_region 5 with (refine wpList_store_row rfl _ (.tmp 7) (.tmp 22) rfl w1.heap.size _ rfl rfl _ _ HX3.out info_frame rfl (one_frame (1792 + nd) 1 false (dOf [m])) ?_)
  clear HX3 HS1 HB1
  generalize (w1.alloc (.cells #[.int .i64 0, .bool false, .int .i64 0, .int .u8 0, .int .u8 0, .int .u8 0, .int .u8 0, .int .u8 0, .int .u8 0, .int .u8 0, .int .u8 0] 24)).setRow w1.heap.size #[.int .i64 (1792 + nd), .bool false, .int .i64 1, .int .u8 m, .int .u8 0, .int .u8 0, .int .u8 0, .int .u8 0, .int .u8 0, .int .u8 0, .int .u8 0] = w2 at HX4 HS4 HB4 ⊢
  generalize w1.heap.size = gx at *
  obtain ⟨x0, x1, x2, x3, x4, x5, x6, x7, x8, x9, x10⟩ : w2.cell? ⟨gx, 0, none⟩ = some (.int .i64 (1792 + nd)) ∧ w2.cell? ⟨gx, 1, none⟩ = some (.bool false) ∧ w2.cell? ⟨gx, 2, none⟩ = some (.int .i64 1) ∧ w2.cell? ⟨gx, 3, none⟩ = some (.int .u8 m) ∧ w2.cell? ⟨gx, 4, none⟩ = some (.int .u8 0) ∧ w2.cell? ⟨gx, 5, none⟩ = some (.int .u8 0) ∧ w2.cell? ⟨gx, 6, none⟩ = some (.int .u8 0) ∧ w2.cell? ⟨gx, 7, none⟩ = some (.int .u8 0) ∧ w2.cell? ⟨gx, 8, none⟩ = some (.int .u8 0) ∧ w2.cell? ⟨gx, 9, none⟩ = some (.int .u8 0) ∧ w2.cell? ⟨gx, 10, none⟩ = some (.int .u8 0) := HX4.out.cells
  go_upto_region 3 with (first
    | (go_at_call 8; refine (HRM.out _).mono ?_; rintro e w3 ⟨rfl, rfl⟩)
    | (go_at_call 9; refine (HDX.out _).mono ?_; rintro e w5 ⟨rfl, hb5⟩; have HS6 := Lib.hid (HS4.out.below hb5 HS4.out.lt); have HX6 := Lib.hid (HX4.out.below hb5 HX4.out.lt); have HB6 := Lib.hid (HB4.out.trans (hb5.mono HB4.out.size)); clear hb5 x0 x1 x2 x3 x4 x5 x6 x7 x8 x9 x10))
  clear HRM HDX HS4 HX4 HB4
  refine wp_region_last (fun x => x.cell? ⟨gx, 0, none⟩ = some (.int .i64 (1792 + nd)) ∧ x.cell? ⟨gx, 1, none⟩ = some (.bool false) ∧ x.cell? ⟨gx, 2, none⟩ = some (.int .i64 1) ∧ x.cell? ⟨gx, 3, none⟩ = some (.int .u8 m) ∧ x.cell? ⟨gx, 4, none⟩ = some (.int .u8 0) ∧ x.cell? ⟨gx, 5, none⟩ = some (.int .u8 0) ∧ x.cell? ⟨gx, 6, none⟩ = some (.int .u8 0) ∧ x.cell? ⟨gx, 7, none⟩ = some (.int .u8 0) ∧ x.cell? ⟨gx, 8, none⟩ = some (.int .u8 0) ∧ x.cell? ⟨gx, 9, none⟩ = some (.int .u8 0) ∧ x.cell? ⟨gx, 10, none⟩ = some (.int .u8 0)) 22 (by kernel_rfl) HX6.out.cells (fun hHeld => ?_)
  replace HS6 : Hid (FrAt w5.drew w.heap.size id r n d) := HS6
  replace HX6 : Hid (FrAt w5.drew gx (1792 + nd) false 1 (dOf [m])) := HX6
  replace HB6 : Hid (Below w.heap.size w w5.drew) := Lib.hid HB6.out.drew
  generalize w5.drew = w5 at *
  have hqx := HQX.out
  refine wpAnyL_take (i := 0) (v := ?_) rfl (by kernel_rfl) (by kernel_rfl) (by kernel_rfl) (by kernel_rfl) (by kernel_rfl) (fun _ _ _ h => h) (Or.inl ⟨by rfl, ?_⟩) (by assumption) ?_
  rotate_left
  · intro wq hSw; (try dsimp only at hSw); first | (go_simp; done) | (go_simp; with_reducible rfl) | with_reducible rfl
  try simp only [Act.put, List.setIfInBounds_toArray, List.set_cons_zero, List.set_cons_succ, List.getElem_toArray, List.getElem_cons_zero, List.getElem_cons_succ]
  refine wpAnyL_take (i := 1) (v := .bool false) rfl (by kernel_rfl) (by kernel_rfl) (by kernel_rfl) (by kernel_rfl) (by kernel_rfl) (fun _ _ _ h => h) (Or.inl ⟨by rfl, ?_⟩) (by assumption) ?_
  · intro wq hSw; (try dsimp only at hSw); first | (go_simp; done) | (go_simp; with_reducible rfl) | with_reducible rfl
  try simp only [Act.put, List.setIfInBounds_toArray, List.set_cons_zero, List.set_cons_succ, List.getElem_toArray, List.getElem_cons_zero, List.getElem_cons_succ]
  refine wpAnyL_take (i := 2) (v := .bool false) rfl (by kernel_rfl) (by kernel_rfl) (by kernel_rfl) (by kernel_rfl) (by kernel_rfl) (fun _ _ _ h => h) (Or.inl ⟨by rfl, ?_⟩) (by assumption) ?_
  · intro wq hSw; (try dsimp only at hSw); first | (go_simp; done) | (go_simp; with_reducible rfl) | with_reducible rfl
  try simp only [Act.put, List.setIfInBounds_toArray, List.set_cons_zero, List.set_cons_succ, List.getElem_toArray, List.getElem_cons_zero, List.getElem_cons_succ]
  refine wpAnyL_take (i := 3) (v := .agg #[.int .i64 (1792 + nd), .bool false, .int .i64 1, .int .u8 m, .int .u8 0, .int .u8 0, .int .u8 0, .int .u8 0, .int .u8 0, .int .u8 0, .int .u8 0]) rfl (by kernel_rfl) (by kernel_rfl) (by kernel_rfl) (by kernel_rfl) (by kernel_rfl) (fun _ _ _ h => h) (Or.inl ⟨by rfl, ?_⟩) (by assumption) ?_
  · intro wq hSw; (try dsimp only at hSw); first | (go_simp; done) | (go_simp; with_reducible rfl) | with_reducible rfl
  try simp only [Act.put, List.setIfInBounds_toArray, List.set_cons_zero, List.set_cons_succ, List.getElem_toArray, List.getElem_cons_zero, List.getElem_cons_succ]
  refine wpAnyL_take (i := 4) (v := ?_) rfl (by kernel_rfl) (by kernel_rfl) (by kernel_rfl) (by kernel_rfl) (by kernel_rfl) (fun _ _ _ h => h) (Or.inl ⟨by rfl, ?_⟩) (by assumption) ?_
  rotate_left
  · intro wq hSw; (try dsimp only at hSw); first | (go_simp; done) | (go_simp; with_reducible rfl) | with_reducible rfl
  try simp only [Act.put, List.setIfInBounds_toArray, List.set_cons_zero, List.set_cons_succ, List.getElem_toArray, List.getElem_cons_zero, List.getElem_cons_succ]
  refine wpAnyL_take (i := 5) (v := ?_) rfl (by kernel_rfl) (by kernel_rfl) (by kernel_rfl) (by kernel_rfl) (by kernel_rfl) (fun _ _ _ h => h) (Or.inl ⟨by rfl, ?_⟩) (by assumption) ?_
  rotate_left
  · intro wq hSw; (try dsimp only at hSw); first | (go_simp; done) | (go_simp; with_reducible rfl) | with_reducible rfl
  try simp only [Act.put, List.setIfInBounds_toArray, List.set_cons_zero, List.set_cons_succ, List.getElem_toArray, List.getElem_cons_zero, List.getElem_cons_succ]
  refine wpAnyL_ready (rs := [6]) (by kernel_rfl) (by simp) ?_
  refine (AllReadyL.cons rfl (fun K hK => ?_) AllReadyL.nil)
  go_simp
  go_wp2_with fail
  refine (HRE.out _).mono ?_
  rintro e w6 ⟨rfl, hb6⟩
  have HS7 := Lib.hid (HS6.out.below hb6 HS6.out.lt)
  have HX7 := Lib.hid (HX6.out.below hb6 HX6.out.lt)
  have HB7 := Lib.hid (HB6.out.trans (hb6.mono HB6.out.size))
  clear hb6
  refine hK.out _ _ ?_ (fun hHeld => ?_)
  · (try dsimp only); exact HX7.out.cells
  clear hK K
  refine wpAnyL_take (i := 7) (v := .bool false) rfl (by kernel_rfl) (by kernel_rfl) (by kernel_rfl) (by kernel_rfl) (by kernel_rfl) (fun _ _ _ h => h) (Or.inl ⟨by rfl, ?_⟩) (by assumption) ?_
  · intro wq hSw; (try dsimp only at hSw); first | (go_simp; done) | (go_simp; with_reducible rfl) | with_reducible rfl
  try simp only [Act.put, List.setIfInBounds_toArray, List.set_cons_zero, List.set_cons_succ, List.getElem_toArray, List.getElem_cons_zero, List.getElem_cons_succ]
  refine wpAnyL_take (i := 8) (v := .bool false) rfl (by kernel_rfl) (by kernel_rfl) (by kernel_rfl) (by kernel_rfl) (by kernel_rfl) (fun _ _ _ h => h) (Or.inl ⟨by rfl, ?_⟩) (by assumption) ?_
  · intro wq hSw; (try dsimp only at hSw); first | (go_simp; done) | (go_simp; with_reducible rfl) | with_reducible rfl
  try simp only [Act.put, List.setIfInBounds_toArray, List.set_cons_zero, List.set_cons_succ, List.getElem_toArray, List.getElem_cons_zero, List.getElem_cons_succ]
  refine wpAnyL_take (i := 9) (v := .bool false) rfl (by kernel_rfl) (by kernel_rfl) (by kernel_rfl) (by kernel_rfl) (by kernel_rfl) (fun _ _ _ h => h) (Or.inl ⟨by rfl, ?_⟩) (by assumption) ?_
  · intro wq hSw; (try dsimp only at hSw); first | (go_simp; done) | (go_simp; with_reducible rfl) | with_reducible rfl
  try simp only [Act.put, List.setIfInBounds_toArray, List.set_cons_zero, List.set_cons_succ, List.getElem_toArray, List.getElem_cons_zero, List.getElem_cons_succ]
  refine wpAnyL_take (i := 10) (v := ?_) rfl (by kernel_rfl) (by kernel_rfl) (by kernel_rfl) (by kernel_rfl) (by kernel_rfl) (fun _ _ _ h => h) (Or.inl ⟨by rfl, ?_⟩) (by assumption) ?_
  rotate_left
  · intro wq hSw; (try dsimp only at hSw); first | (go_simp; done) | (go_simp; with_reducible rfl) | with_reducible rfl
  try simp only [Act.put, List.setIfInBounds_toArray, List.set_cons_zero, List.set_cons_succ, List.getElem_toArray, List.getElem_cons_zero, List.getElem_cons_succ]
  refine wpAnyL_take (i := 11) (v := .bool false) rfl (by kernel_rfl) (by kernel_rfl) (by kernel_rfl) (by kernel_rfl) (by kernel_rfl) (fun _ _ _ h => h) (Or.inl ⟨by rfl, ?_⟩) (by assumption) ?_
  · intro wq hSw; (try dsimp only at hSw); first | (go_simp; done) | (go_simp; with_reducible rfl) | with_reducible rfl
  try simp only [Act.put, List.setIfInBounds_toArray, List.set_cons_zero, List.set_cons_succ, List.getElem_toArray, List.getElem_cons_zero, List.getElem_cons_succ]
  refine wpAnyL_take (i := 12) (v := .bool false) rfl (by kernel_rfl) (by kernel_rfl) (by kernel_rfl) (by kernel_rfl) (by kernel_rfl) (fun _ _ _ h => h) (Or.inl ⟨by rfl, ?_⟩) (by assumption) ?_
  · intro wq hSw; (try dsimp only at hSw); first | (go_simp; done) | (go_simp; with_reducible rfl) | with_reducible rfl
  try simp only [Act.put, List.setIfInBounds_toArray, List.set_cons_zero, List.set_cons_succ, List.getElem_toArray, List.getElem_cons_zero, List.getElem_cons_succ]
  refine wpAnyL_take (i := 13) (v := .bool false) rfl (by kernel_rfl) (by kernel_rfl) (by kernel_rfl) (by kernel_rfl) (by kernel_rfl) (fun _ _ _ h => h) (Or.inl ⟨by rfl, ?_⟩) (by assumption) ?_
  · intro wq hSw; (try dsimp only at hSw); first | (go_simp; done) | (go_simp; with_reducible rfl) | with_reducible rfl
  try simp only [Act.put, List.setIfInBounds_toArray, List.set_cons_zero, List.set_cons_succ, List.getElem_toArray, List.getElem_cons_zero, List.getElem_cons_succ]
  refine wpAnyL_take (i := 14) (v := .int .i64 nd) rfl (by kernel_rfl) (by kernel_rfl) (by kernel_rfl) (by kernel_rfl) (by kernel_rfl) (fun _ _ _ h => h) (Or.inl ⟨by rfl, ?_⟩) (by assumption) ?_
  · intro wq hSw; (try dsimp only at hSw); first | (go_simp; done) | (go_simp; with_reducible rfl) | with_reducible rfl
  try simp only [Act.put, List.setIfInBounds_toArray, List.set_cons_zero, List.set_cons_succ, List.getElem_toArray, List.getElem_cons_zero, List.getElem_cons_succ]
  refine wpAnyL_take (i := 15) (v := .int .i64 nd) rfl (by kernel_rfl) (by kernel_rfl) (by kernel_rfl) (by kernel_rfl) (by kernel_rfl) (fun _ _ _ h => h) (Or.inl ⟨by rfl, ?_⟩) (by assumption) ?_
  · intro wq hSw; (try dsimp only at hSw); first | (go_simp; done) | (go_simp; with_reducible rfl) | with_reducible rfl
  try simp only [Act.put, List.setIfInBounds_toArray, List.set_cons_zero, List.set_cons_succ, List.getElem_toArray, List.getElem_cons_zero, List.getElem_cons_succ]
  refine wpAnyL_take (i := 16) (v := .bool false) rfl (by kernel_rfl) (by kernel_rfl) (by kernel_rfl) (by kernel_rfl) (by kernel_rfl) (fun _ _ _ h => h) (Or.inl ⟨by rfl, ?_⟩) (by assumption) ?_
  · intro wq hSw; (try dsimp only at hSw); first | (go_simp; done) | (go_simp; with_reducible rfl) | with_reducible rfl
  try simp only [Act.put, List.setIfInBounds_toArray, List.set_cons_zero, List.set_cons_succ, List.getElem_toArray, List.getElem_cons_zero, List.getElem_cons_succ]
  refine wpAnyL_take (i := 17) (v := .bool false) rfl (by kernel_rfl) (by kernel_rfl) (by kernel_rfl) (by kernel_rfl) (by kernel_rfl) (fun _ _ _ h => h) (Or.inl ⟨by rfl, ?_⟩) (by assumption) ?_
  · intro wq hSw; (try dsimp only at hSw); first | (go_simp; done) | (go_simp; with_reducible rfl) | with_reducible rfl
  try simp only [Act.put, List.setIfInBounds_toArray, List.set_cons_zero, List.set_cons_succ, List.getElem_toArray, List.getElem_cons_zero, List.getElem_cons_succ]
  refine wpAnyL_take (i := 18) (v := .bool false) rfl (by kernel_rfl) (by kernel_rfl) (by kernel_rfl) (by kernel_rfl) (by kernel_rfl) (fun _ _ _ h => h) (Or.inl ⟨by rfl, ?_⟩) (by assumption) ?_
  · intro wq hSw; (try dsimp only at hSw); first | (go_simp; done) | (go_simp; with_reducible rfl) | with_reducible rfl
  try simp only [Act.put, List.setIfInBounds_toArray, List.set_cons_zero, List.set_cons_succ, List.getElem_toArray, List.getElem_cons_zero, List.getElem_cons_succ]
  refine wpAnyL_take (i := 19) (v := .int .i64 m) rfl (by kernel_rfl) (by kernel_rfl) (by kernel_rfl) (by kernel_rfl) (by kernel_rfl) (fun _ _ _ h => h) (Or.inl ⟨by rfl, ?_⟩) (by assumption) ?_
  · intro wq hSw; (try dsimp only at hSw); first | (go_simp; done) | (go_simp; with_reducible rfl) | with_reducible rfl
  try simp only [Act.put, List.setIfInBounds_toArray, List.set_cons_zero, List.set_cons_succ, List.getElem_toArray, List.getElem_cons_zero, List.getElem_cons_succ]
  refine wpAnyL_take (i := 20) (v := .int .i64 m) rfl (by kernel_rfl) (by kernel_rfl) (by kernel_rfl) (by kernel_rfl) (by kernel_rfl) (fun _ _ _ h => h) (Or.inl ⟨by rfl, ?_⟩) (by assumption) ?_
  · intro wq hSw; (try dsimp only at hSw); first | (go_simp; done) | (go_simp; with_reducible rfl) | with_reducible rfl
  try simp only [Act.put, List.setIfInBounds_toArray, List.set_cons_zero, List.set_cons_succ, List.getElem_toArray, List.getElem_cons_zero, List.getElem_cons_succ]
  refine wpAnyL_take (i := 21) (v := .bool false) rfl (by kernel_rfl) (by kernel_rfl) (by kernel_rfl) (by kernel_rfl) (by kernel_rfl) (fun _ _ _ h => h) (Or.inl ⟨by rfl, ?_⟩) (by assumption) ?_
  · intro wq hSw; (try dsimp only at hSw); first | (go_simp; done) | (go_simp; with_reducible rfl) | with_reducible rfl
  try simp only [Act.put, List.setIfInBounds_toArray, List.set_cons_zero, List.set_cons_succ, List.getElem_toArray, List.getElem_cons_zero, List.getElem_cons_succ]
  refine wpAnyL_ready (rs := [22]) (by kernel_rfl) (by simp) ?_
  refine AllReadyL.last rfl (fun K hK => ?_)
  go_simp
  refine hK.out _ _ ?_
  clear hK K
  refine wpAnyL_done (by kernel_rfl) ?_ _
  clear hHeld
  go_simp
  have HS8 := HS7
  have HB8 := HB7
  clear HS6 HS7 HX6 HX7 HB6 HB7 hqx HQX HRE
  obtain ⟨f0, f1, f2, f3, f4, f5, f6, f7, f8, f9, f10⟩ := HS8.out.cells
  go_wp2_with fail
  refine (HDY.out _).mono ?_
  rintro e w9 ⟨rfl, hb9⟩
  have HS9 := Lib.hid (HS8.out.below hb9 HS8.out.lt)
  have HB9 := Lib.hid (HB8.out.trans (hb9.mono HB8.out.size))
  clear hb9 f0 f1 f2 f3 f4 f5 f6 f7 f8 f9 f10 HS8 HB8
  obtain ⟨f0, f1, f2, f3, f4, f5, f6, f7, f8, f9, f10⟩ := HS9.out.cells
  go_wp2_with fail
  refine (HRY.out _).mono ?_
  rintro e w10 ⟨rfl, hb10⟩
  have HB10 := Lib.hid (HB9.out.trans (hb10.mono HB9.out.size))
  clear hb10 f0 f1 f2 f3 f4 f5 f6 f7 f8 f9 f10 HS9 HB9
  cases q
  all_goals
    have e1 := HEE.out
    simp only [if_true, if_false, Bool.false_eq_true] at e1
    subst e1
    go_wp2_with (go_at_call 12; refine (live22_any _).mono ?_; rintro e w11 ⟨rfl, hb11⟩)
    first | (go_ret; exact ⟨rfl, HB10.out.trans (hb11.mono HB10.out.size)⟩) | (trace_state; sorry)
theorem frames_walk (nd m id n : Int) (r : Bool) (d : Nat → Int) (w : World) (hd : ∀ j, j < 8 → 0 ≤ d j ∧ d j ≤ 255) :
    Calls Try.prog 3 #[.int .i64 nd, .int .i64 m, .agg #[.int .i64 id, .bool r, .int .i64 n, .int .u8 (d 0), .int .u8 (d 1), .int .u8 (d 2), .int .u8 (d 3), .int .u8 (d 4), .int .u8 (d 5), .int .u8 (d 6), .int .u8 (d 7)]] w fun e w' => e = .returned (.bool true) ∧ Below w.heap.size w w' := by
  cases hn : isNI nd with
  | false => exact frames_node nd m id n r d w hd _ rfl hn
  | true =>
    cases hm : isMd m with
    | false => exact frames_mode nd m id n r d w hd _ rfl hn hm
    | true => exact frames_ok nd m id n r d w hd _ rfl hn hm
end Go.Proofs.Ytiidgcgamcgipaa
