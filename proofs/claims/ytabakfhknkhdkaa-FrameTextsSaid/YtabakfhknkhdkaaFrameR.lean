/- What must be whatever is asked. -/
import Derived.Test.YtabakfhknkhdkaaFrameQ
namespace Go.Proofs.Ytabakfhknkhdkaa
open Go.RowKit

theorem l1 : chk 291 false 2 (dOf [1, 171]) = 0 := by decide
theorem l2 : chk 291 true 5 (fun _ => 0) = 0 := by decide
theorem l3 : rk 291 false 2 (dOf [1, 171]) = 582 := by decide
theorem l4 : rk 291 true 5 (fun _ => 0) = 583 := by decide
theorem l5 : (strOfNums (txL 291 false 2 (dOf [1, 171]))).toList = [49, 50, 51, 35, 48, 49, 65, 66] := by rw [ByteArray.toList_eq]; decide
theorem l6 : Lib.indexByte (⟨#[49, 50, 51, 35, 82, 53]⟩ : ByteArray).data.toList 35 = (3 : Nat) := by decide
theorem l7 : numO (sB ((⟨#[49, 50, 51, 35, 82, 53]⟩ : ByteArray).extract 0 3)) 3 = some 291 := by decide
theorem l8 : hasP ((⟨#[49, 50, 51, 35, 82, 53]⟩ : ByteArray).extract 4 6) 82 = true := by unfold hasP; rw [ByteArray.toList_eq]; decide
theorem l9 : numO (sB (((⟨#[49, 50, 51, 35, 82, 53]⟩ : ByteArray).extract 4 6).extract 1 2)) 1 = some 5 := by decide
theorem dOf_byte : ∀ j, j < 8 → 0 ≤ dOf [1, 171] j ∧ dOf [1, 171] j ≤ 255 := by decide
theorem live_new (w : World) (A : Option Addr) (c : Nat) (h : Byt w w.heap.size A 2 c [1, 171]) : Calls Try.prog 8 #[.int .i64 291, .slice A 2 c] w fun e w' => e = .returned (.tuple #[.agg #[.int .i64 291, .bool false, .int .i64 2, .int .u8 1, .int .u8 171, .int .u8 0, .int .u8 0, .int .u8 0, .int .u8 0, .int .u8 0, .int .u8 0], .int .i64 0]) ∧ Below w.heap.size w w' := new_ok 291 A 2 c [1, 171] w h l1
theorem live_text (w : World) : Calls Try.prog 20 #[.agg #[.int .i64 291, .bool false, .int .i64 2, .int .u8 1, .int .u8 171, .int .u8 0, .int .u8 0, .int .u8 0, .int .u8 0, .int .u8 0, .int .u8 0]] w fun e w' => e = .returned (.tuple #[.string (strOfNums (txL 291 false 2 (dOf [1, 171]))), .int .i64 0]) ∧ Below w.heap.size w w' := text_dat 291 2 (dOf [1, 171]) w l1 dOf_byte
theorem live_parse (w : World) : Calls Try.prog 21 #[.string ⟨#[49, 50, 51, 35, 82, 53]⟩] w fun e w' => e = .returned (.tuple #[.agg #[.int .i64 291, .bool true, .int .i64 5, .int .u8 0, .int .u8 0, .int .u8 0, .int .u8 0, .int .u8 0, .int .u8 0, .int .u8 0, .int .u8 0], .int .i64 0]) ∧ Below w.heap.size w w' := parse_ask 291 5 ⟨#[49, 50, 51, 35, 82, 53]⟩ 3 w (by decide) (by decide) l6 l7 l8 l9 l2
theorem live_less (w : World) : Calls Try.prog 17 #[.agg #[.int .i64 291, .bool false, .int .i64 2, .int .u8 1, .int .u8 171, .int .u8 0, .int .u8 0, .int .u8 0, .int .u8 0, .int .u8 0, .int .u8 0], .agg #[.int .i64 291, .bool true, .int .i64 5, .int .u8 0, .int .u8 0, .int .u8 0, .int .u8 0, .int .u8 0, .int .u8 0, .int .u8 0, .int .u8 0]] w fun e w' => e = .returned (.bool true) ∧ Below w.heap.size w w' := by
  have h := less_any 291 2 291 5 false true (dOf [1, 171]) (fun _ => 0) w
  rw [l3, l4] at h
  exact h
theorem live_eq (w : World) : (Op.equalIn 10000 24 (.agg #[.int .i64 291, .bool true, .int .i64 5, .int .u8 0, .int .u8 0, .int .u8 0, .int .u8 0, .int .u8 0, .int .u8 0, .int .u8 0, .int .u8 0]) (.agg #[.int .i64 291, .bool true, .int .i64 5, .int .u8 0, .int .u8 0, .int .u8 0, .int .u8 0, .int .u8 0, .int .u8 0, .int .u8 0, .int .u8 0])).run Try.prog w = .ok true w := run_eq_frames w 291 291 5 5 true true (fun _ => 0) (fun _ => 0)
theorem live4_any (w : World) : Calls Try.prog 7 #[] w fun e w' => e = .returned (.bool true) ∧ Below w.heap.size w w' := by
  have hby : Byt (w.alloc (.cells #[.int .u8 1, .int .u8 171] 5)) (w.alloc (.cells #[.int .u8 1, .int .u8 171] 5)).heap.size (some ⟨w.heap.size, 0, none⟩) 2 2 [1, 171] := (Byt.new w 5 [1, 171] (by decide) (by decide)).more (by simp)
  have hb0 : Below w.heap.size w (w.alloc (.cells #[.int .u8 1, .int .u8 171] 5)) := (Below.refl _ _).alloc (Nat.le_refl _) _
  have HL := l5
  have HT := Lib.hid live_text
  generalize strOfNums (txL 291 false 2 (dOf [1, 171])) = S at HL HT
  have HEQ := live_eq
  have HBY := Lib.hid hby
  have HB0 := Lib.hid hb0
  clear hby hb0
  go_enter Try.func7, Try.ntmps7
  go_wp2_with (first
    | (go_at_call 8; refine (live_new _ _ _ HBY.out).mono ?_; rintro e w1 ⟨rfl, hb1⟩; have hbw1 := (HB0.out.trans (hb1.mono HB0.out.size)).alloc (Nat.le_trans HB0.out.size hb1.size) (.cells #[.int .i64 0, .bool false, .int .i64 0, .int .u8 0, .int .u8 0, .int .u8 0, .int .u8 0, .int .u8 0, .int .u8 0, .int .u8 0, .int .u8 0] 24); have hy1 : FrAt (w1.alloc (.cells #[.int .i64 0, .bool false, .int .i64 0, .int .u8 0, .int .u8 0, .int .u8 0, .int .u8 0, .int .u8 0, .int .u8 0, .int .u8 0, .int .u8 0] 24)) w1.heap.size 0 false 0 (fun _ => 0) := heap_alloc_new w1 _; have hy2 := hy1.row 291 2 false (dOf [1, 171]); have hbw2 := below_setRow hbw1 (Nat.le_trans HB0.out.size hb1.size) #[.int .i64 291, .bool false, .int .i64 2, .int .u8 1, .int .u8 171, .int .u8 0, .int .u8 0, .int .u8 0, .int .u8 0, .int .u8 0, .int .u8 0]; have hlt2 := hy2.lt; have HY1 := Lib.hid hy1; have HY2 := Lib.hid hy2; have HB2 := Lib.hid hbw2; have HSZ := Lib.hid (Nat.le_trans HB0.out.size hb1.size); clear hy1 hy2 hb1 hbw1 hbw2)
    | (refine wpList_store_row rfl _ (.tmp 1) (.tmp 10) rfl w1.heap.size _ rfl rfl _ _ HY1.out info_frame rfl (one_frame 291 2 false (dOf [1, 171])) ?_)
    | (refine wpList_load_row rfl _ (.tmp 1) rfl w1.heap.size rfl _ _ _ _ HY2.out Try.underlying24 rfl info_frame ?_)
    | (go_at_call 20; refine (HT.out _).mono ?_; rintro e w2 ⟨rfl, hb2⟩; have hz2 := FrAt.below HY2.out hb2 hlt2; have hbw3 := HB2.out.trans (hb2.mono HB2.out.size); have hlt3 := hz2.lt; have HZ2 := Lib.hid hz2; have HB3 := Lib.hid hbw3; clear hz2 hbw3 hb2)
    | (go_at_call 21; refine (live_parse _).mono ?_; rintro e w3 ⟨rfl, hb3⟩; have hz3 := FrAt.below HZ2.out hb3 hlt3; have hbw4 := HB3.out.trans (hb3.mono HB3.out.size); have hz4 := hz3.below ((Below.refl w3.heap.size w3).alloc (Nat.le_refl _) (.cells #[.int .i64 0, .bool false, .int .i64 0, .int .u8 0, .int .u8 0, .int .u8 0, .int .u8 0, .int .u8 0, .int .u8 0, .int .u8 0, .int .u8 0] 24)) hz3.lt; have hy4 : FrAt (w3.alloc (.cells #[.int .i64 0, .bool false, .int .i64 0, .int .u8 0, .int .u8 0, .int .u8 0, .int .u8 0, .int .u8 0, .int .u8 0, .int .u8 0, .int .u8 0] 24)) w3.heap.size 0 false 0 (fun _ => 0) := heap_alloc_new w3 _; have hne := Nat.ne_of_lt hz3.lt; have hbw5 := hbw4.alloc hbw4.size (.cells #[.int .i64 0, .bool false, .int .i64 0, .int .u8 0, .int .u8 0, .int .u8 0, .int .u8 0, .int .u8 0, .int .u8 0, .int .u8 0, .int .u8 0] 24); have hy5 := hy4.row 291 5 true (fun _ => 0); have hz5 := hz4.row_other hne #[.int .i64 291, .bool true, .int .i64 5, .int .u8 0, .int .u8 0, .int .u8 0, .int .u8 0, .int .u8 0, .int .u8 0, .int .u8 0, .int .u8 0]; have hbw6 := below_setRow hbw5 hbw4.size #[.int .i64 291, .bool true, .int .i64 5, .int .u8 0, .int .u8 0, .int .u8 0, .int .u8 0, .int .u8 0, .int .u8 0, .int .u8 0, .int .u8 0]; obtain ⟨c0, c1, c2, c3, c4, c5, c6, c7, c8, c9, c10⟩ := hy5.cells; obtain ⟨d0, d1, d2, d3, d4, d5, d6, d7, d8, d9, d10⟩ := hz5.cells; have HY4 := Lib.hid hy4; have HB6 := Lib.hid hbw6; clear hb3 hz3 hbw4 hz4 hy4 hbw5 hy5 hz5 hbw6)
    | (refine wpList_store_row rfl _ (.tmp 5) (.tmp 19) rfl w3.heap.size _ rfl rfl _ _ HY4.out info_frame rfl (one_frame 291 5 true (fun _ => 0)) ?_)
    | (go_at_call 17; refine (live_less _).mono ?_; rintro e w4 ⟨rfl, hb4⟩; have hbw7 := HB6.out.trans (hb4.mono HB6.out.size)))
  all_goals exact bodyPost_ret (results_tmp rfl _ _ _) rfl ⟨rfl, hbw7⟩
end Go.Proofs.Ytabakfhknkhdkaa
