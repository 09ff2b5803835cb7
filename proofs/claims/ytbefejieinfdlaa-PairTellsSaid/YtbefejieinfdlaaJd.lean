/- pair: live. -/
import Derived.Test.YtbefejieinfdlaaJc
namespace Go.Proofs.Ytbefejieinfdlaa
open Go.RowKit
set_option linter.unusedSimpArgs false
set_option linter.unusedVariables false

theorem byt_one (w : World) (x : Int) (h : 0 ≤ x ∧ x ≤ 255) : Byt (w.alloc (.cells #[.int .u8 x] 5)) (w.heap.size + 1) (some ⟨w.heap.size, 0, none⟩) 1 1 [x] :=
  Byt.new w 5 [x] (by simpa using h) (by simp [maxLen])
set_option maxRecDepth 100000 in
set_option maxHeartbeats 4000000 in
theorem live27_any (w : World) : Calls Try.prog 7 #[] w fun e w' => e = .returned (.bool true) ∧ Below w.heap.size w w' := by
  have hq : ∀ w, (Op.equalIn 10000 30 (.agg #[.int .i64 258, .bool false, .int .i64 1, .int .u8 250, .int .u8 0, .int .u8 0, .int .u8 0, .int .u8 0, .int .u8 0, .int .u8 0, .int .u8 0]) (.agg #[.int .i64 258, .bool false, .int .i64 1, .int .u8 250, .int .u8 0, .int .u8 0, .int .u8 0, .int .u8 0, .int .u8 0, .int .u8 0, .int .u8 0])).run Try.prog w = .ok true w := fun w => (run_eq_frames w 258 258 1 1 false false (dOf [250]) (dOf [250])).trans (by simp [eqD])
  have hse : ((ByteArray.mk #[5]).toList == (ByteArray.mk #[5]).toList) = true := by simp
  have HQ := Lib.hid hq
  have HA := Lib.hid (show Below w.heap.size w (w.alloc (.cells #[.int .u8 5] 5)) from (Below.refl _ _).alloc (Nat.le_refl _) _)
  have HY := Lib.hid (show Byt (w.alloc (.cells #[.int .u8 5] 5)) (w.alloc (.cells #[.int .u8 5] 5)).heap.size (some ⟨w.heap.size, 0, none⟩) 1 1 [5] by have := byt_one w 5 (by omega); simpa using this)
  have HM := Lib.hid (make_ok 257 258 _ _ _ _ _ HY.out (by omega) (by decide) (by decide))
  clear hq
  go_enter Try.func7, Try.ntmps7
  go_upto_region 2 with (go_at_call 8; refine (HM.out).mono ?_; rintro e w1 ⟨g, hg, rfl, x1, b1⟩; have HX1 := Lib.hid x1; have HB1 := Lib.hid (kF b1 HA.out); clear x1 b1 hg)
  clear HM HY HA
  have HN := Lib.hid (cnew_ok 1 w1 (by omega))
  go_upto_region 3 with (go_at_call 14; refine (HN.out).mono ?_; rintro e w2 ⟨k, hk, rfl, x2, b2⟩; have HX2 := Lib.hid (HX1.out.below b2); have HK2 := Lib.hid x2; have HB2 := Lib.hid (kF b2 HB1.out); have HG2 := Lib.hid (show w.heap.size ≤ k from Nat.le_trans HB1.out.size hk); have HNE := Lib.hid (show ¬ g = k from fun e => by have := HX1.out.lt; omega); clear x2 b2 hk)
  clear HX1 HB1 HN
  have ha2 : Below w2.heap.size w2 (w2.alloc (.cells #[.int .u8 5] 5)) := (Below.refl _ _).alloc (Nat.le_refl _) _
  have HY2 := Lib.hid (show Byt (w2.alloc (.cells #[.int .u8 5] 5)) (w2.alloc (.cells #[.int .u8 5] 5)).heap.size (some ⟨w2.heap.size, 0, none⟩) 1 1 [5] by have := byt_one w2 5 (by omega); simpa using this)
  have HPL := Lib.hid (plainT (HK2.out.below ha2) HY2.out (by omega))
  rw [show plE 1 none [5] = 1 by decide, show plP 1 none [5] = some [5] by decide] at HPL
  have HX3 := Lib.hid (HX2.out.below ha2)
  have HB3 := Lib.hid (kF ha2 HB2.out)
  clear ha2
  go_upto_region 4 with (first
    | (go_at_call 16; refine (HPL.out).mono ?_; rintro e w4 ⟨rfl, x4, o4⟩; have HX4 := Lib.hid (show TwAt w4 g 257 258 1 (dOf [5]) (dOf (flipL [5])) from (o4.oth g HX3.out.lt HNE.out).trans HX3.out); have ha4 : Below w4.heap.size w4 (w4.alloc (.cells #[.int .u8 250] 5)) := (Below.refl _ _).alloc (Nat.le_refl _) _; have HX5 := Lib.hid (HX4.out.below ha4); have HK5 := Lib.hid (x4.below ha4); have HB5 := Lib.hid (kF ha4 (HB3.out.trans (o4.from_ HG2.out))); have HY5 := Lib.hid (show Byt (w4.alloc (.cells #[.int .u8 250] 5)) (w4.alloc (.cells #[.int .u8 250] 5)).heap.size (some ⟨w4.heap.size, 0, none⟩) 1 1 [250] by have := byt_one w4 250 (by omega); simpa using this); have HTU := Lib.hid (turnedT HK5.out HY5.out (by omega)); rw [show tuE 1 (some [5]) [250] = 2 by decide, show tuV 1 (some [5]) [250] [] = [5] by decide] at HTU; clear x4 o4 ha4)
    | (go_at_call 17; refine (HTU.out).mono ?_; rintro e w6 ⟨rfl, x6, o6⟩; have HX6 := Lib.hid (show TwAt w6 g 257 258 1 (dOf [5]) (dOf (flipL [5])) from (o6.oth g HX5.out.lt HNE.out).trans HX5.out); have HK6 := Lib.hid x6; have HB6 := Lib.hid (HB5.out.trans (o6.from_ HG2.out)); clear x6 o6))
  have hc : w6.cell? ⟨g, 11, none⟩ = some (.int .i64 258) ∧ w6.cell? ⟨g, 12, none⟩ = some (.bool false) ∧ w6.cell? ⟨g, 13, none⟩ = some (.int .i64 1) ∧ w6.cell? ⟨g, 14, none⟩ = some (.int .u8 250) ∧ w6.cell? ⟨g, 15, none⟩ = some (.int .u8 0) ∧ w6.cell? ⟨g, 16, none⟩ = some (.int .u8 0) ∧ w6.cell? ⟨g, 17, none⟩ = some (.int .u8 0) ∧ w6.cell? ⟨g, 18, none⟩ = some (.int .u8 0) ∧ w6.cell? ⟨g, 19, none⟩ = some (.int .u8 0) ∧ w6.cell? ⟨g, 20, none⟩ = some (.int .u8 0) ∧ w6.cell? ⟨g, 21, none⟩ = some (.int .u8 0) := HX6.out.cells2
  obtain ⟨c0, c1, c2, c3, c4, c5, c6, c7, c8, c9, c10⟩ := hc
  have HV := Lib.hid (valueT HK6.out)
  have hq := HQ.out
  clear HX6 HK6 HTU HPL HX5 HK5 HY5 HX4 HX3 HB3 HK2 HX2 HY2 HQ
  go_wp2_with (go_at_call 19; refine (HV.out).mono ?_; rintro e w7 ⟨A', c', rfl, y7, b7⟩; have y8 : Byt w7 w7.heap.size A' 1 c' [5] := y7; have hst := run_str 22 5 Try.underlying22 Try.underlying5 y8 9 Try.underlying9; rw [show strOfNums [5] = ByteArray.mk #[5] from rfl] at hst; clear y8; have HB7 := Lib.hid (kF b7 HB6.out); clear y7 b7)
  all_goals first | (go_ret; exact ⟨rfl, HB7.out⟩) | (trace_state; sorry)
end Go.Proofs.Ytbefejieinfdlaa
