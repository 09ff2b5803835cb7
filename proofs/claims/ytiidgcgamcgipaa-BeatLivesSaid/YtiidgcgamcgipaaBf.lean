/- beat: beats' frames, both sides. -/
import Derived.Test.YtiidgcgamcgipaaBFrameI
import Derived.IntWalk
import Derived.Deep.CutBlock
import Derived.BigQuiet
import Derived.Deep.QuietTactic
namespace Go.Proofs.Ytiidgcgamcgipaa
open Go.RowKit
set_option linter.unusedSimpArgs false
set_option linter.unusedVariables false

def isNI (n : Int) : Bool := decide (1 ≤ n ∧ n ≤ 127)
def isMd (m : Int) : Bool := decide (m = 0 ∨ m = 4 ∨ m = 5 ∨ m = 127)
theorem isN_yes {n : Int} (h0 : 1 ≤ n) (h1 : n ≤ 127) : isNI n = true := by simp [isNI, h0, h1]
theorem isN_no {n : Int} (h : n < 1 ∨ 127 < n) : isNI n = false := by unfold isNI; exact decide_eq_false (by omega)
theorem isN_in {n : Int} (h : isNI n = true) : 1 ≤ n ∧ n ≤ 127 := by simpa [isNI] using h
theorem isM_in {m : Int} (h : isMd m = true) : m = 0 ∨ m = 4 ∨ m = 5 ∨ m = 127 := by simpa [isMd] using h
theorem md_cases (m : Int) : m = 0 ∨ m = 4 ∨ m = 5 ∨ m = 127 ∨ (¬ m = 0 ∧ ¬ m = 4 ∧ ¬ m = 5 ∧ ¬ m = 127) := by omega
theorem isM_no {m : Int} (h : ¬ m = 0 ∧ ¬ m = 4 ∧ ¬ m = 5 ∧ ¬ m = 127) : isMd m = false := by simp [isMd, h.1, h.2.1, h.2.2.1, h.2.2.2]
theorem bnode_any (n : Int) (w : World) : Calls Try.prog 24 #[.int .i64 n] w fun e w' => e = .returned (.bool (isNI n)) ∧ w = w' := by
  by_cases h1 : 1 ≤ n
  · by_cases h2 : n ≤ 127
    · rw [isN_yes h1 h2]; go_enter Try.func24, Try.ntmps24; go_wp2; go_ret; exact ⟨rfl, rfl⟩
    · rw [isN_no (n := n) (by omega)]; go_enter Try.func24, Try.ntmps24; go_wp2; go_ret; exact ⟨rfl, rfl⟩
  · rw [isN_no (n := n) (by omega)]; go_enter Try.func24, Try.ntmps24; go_wp2; go_ret; exact ⟨rfl, rfl⟩
theorem bmode_any (m : Int) (w : World) : Calls Try.prog 25 #[.int .i64 m] w fun e w' => e = .returned (.bool (isMd m)) ∧ w = w' := by
  rcases md_cases m with rfl | rfl | rfl | rfl | h
  case inr.inr.inr.inr =>
    rw [isM_no h]
    obtain ⟨h1, h2, h3, h4⟩ := h
    go_enter Try.func25, Try.ntmps25; go_wp2; go_ret; exact ⟨rfl, rfl⟩
  all_goals
    go_enter Try.func25, Try.ntmps25; go_wp2; go_ret; exact ⟨rfl, rfl⟩
theorem rmode_any (m : Int) (w : World) : Calls Try.prog 8 #[.int .i64 m] w fun e w' => e = .returned (.bool (isMd m)) ∧ w = w' := by
  rcases md_cases m with rfl | rfl | rfl | rfl | h
  case inr.inr.inr.inr =>
    rw [isM_no h]
    obtain ⟨h1, h2, h3, h4⟩ := h
    have t1 : (m == 0) = false := by simpa using h1
    have t2 : (m == 4) = false := by simpa using h2
    have t3 : (m == 5) = false := by simpa using h3
    have t4 : (m == 127) = false := by simpa using h4
    clear h1 h2 h3 h4
    go_enter Try.func8, Try.ntmps8; go_wp2; go_ret; exact ⟨rfl, rfl⟩
  all_goals
    go_enter Try.func8, Try.ntmps8; go_wp2; go_ret; exact ⟨rfl, rfl⟩
theorem chk_one (nd m : Int) (h0 : 1 ≤ nd) (h1 : nd ≤ 127) : chk (1792 + nd) false 1 (dOf [m]) = 0 := by
  unfold chk
  rw [if_neg (by omega), if_neg (by omega)]
  simp [eqD, cut, kOf, dOf]
theorem new_one (nd m : Int) (w : World) (A : Option Addr) (c : Nat) (h0 : 1 ≤ nd) (h1 : nd ≤ 127) (h : Byt w w.heap.size A 1 c [m]) : Calls Try.prog 26 #[.int .i64 (1792 + nd), .slice A 1 c] w fun e w' => e = .returned (.tuple #[.agg #[.int .i64 (1792 + nd), .bool false, .int .i64 1, .int .u8 m, .int .u8 0, .int .u8 0, .int .u8 0, .int .u8 0, .int .u8 0, .int .u8 0, .int .u8 0], .int .i64 0]) ∧ Below w.heap.size w w' := new_ok (1792 + nd) A 1 c [m] w h (chk_one nd m h0 h1)

set_option maxRecDepth 100000 in
theorem bencode_yes (nd m : Int) (w : World) (hn : isNI nd = true) (hm : isMd m = true) :
    Calls Try.prog 7 #[.int .i64 nd, .int .i64 m] w fun e w' => e = .returned (.tuple #[.agg #[.int .i64 (1792 + nd), .bool false, .int .i64 1, .int .u8 m, .int .u8 0, .int .u8 0, .int .u8 0, .int .u8 0, .int .u8 0, .int .u8 0, .int .u8 0], .int .i64 0]) ∧ Below w.heap.size w w' := by
  have hN := bnode_any nd
  have hM := bmode_any m
  rw [hn] at hN
  rw [hm] at hM
  obtain ⟨h0, h1⟩ := isN_in hn
  have hv := isM_in hm
  have wv : IntKind.u8.wrap m = m := IntWalk.u8_in m ⟨by omega, by omega⟩
  have hf : FrAt (w.alloc (.cells #[.int .i64 0, .bool false, .int .i64 0, .int .u8 0, .int .u8 0, .int .u8 0, .int .u8 0, .int .u8 0, .int .u8 0, .int .u8 0, .int .u8 0] 24)) w.heap.size 0 false 0 (fun _ => 0) := frame_new w 0 0 false (fun _ => 0)
  have hb : Below w.heap.size w (w.alloc (.cells #[.int .i64 0, .bool false, .int .i64 0, .int .u8 0, .int .u8 0, .int .u8 0, .int .u8 0, .int .u8 0, .int .u8 0, .int .u8 0, .int .u8 0] 24)) := (Below.refl _ _).alloc (Nat.le_refl _) _
  have HN := Lib.hid hN
  have HM := Lib.hid hM
  have HF := Lib.hid hf
  have HB := Lib.hid hb
  have hz : (w.alloc (.cells #[.int .i64 0, .bool false, .int .i64 0, .int .u8 0, .int .u8 0, .int .u8 0, .int .u8 0, .int .u8 0, .int .u8 0, .int .u8 0, .int .u8 0] 24)).heap.size = w.heap.size + 1 := by simp
  have hby := (Byt.new (w.alloc (.cells #[.int .i64 0, .bool false, .int .i64 0, .int .u8 0, .int .u8 0, .int .u8 0, .int .u8 0, .int .u8 0, .int .u8 0, .int .u8 0, .int .u8 0] 24)) 5 [m] (by intro y hy; simp at hy; omega) (by simp [maxLen])).more (B' := ((w.alloc (.cells #[.int .i64 0, .bool false, .int .i64 0, .int .u8 0, .int .u8 0, .int .u8 0, .int .u8 0, .int .u8 0, .int .u8 0, .int .u8 0, .int .u8 0] 24)).alloc (.cells #[.int .u8 m] 5)).heap.size) (by simp)
  rw [hz] at hby
  have HBY := Lib.hid hby
  clear hby hz
  clear hN hM hn hm hv hf hb
  go_enter Try.func7, Try.ntmps7
  go_wp2_with (first
    | (go_at_call 24; refine (HN.out _).mono ?_; rintro e w1 ⟨rfl, rfl⟩)
    | (go_at_call 25; refine (HM.out _).mono ?_; rintro e w1 ⟨rfl, rfl⟩)
    | (go_at_call 26; refine (new_one nd m _ _ _ h0 h1 HBY.out).mono ?_; rintro e w2 ⟨rfl, hb2⟩; have hba : Below (w.alloc (.cells #[.int .i64 0, .bool false, .int .i64 0, .int .u8 0, .int .u8 0, .int .u8 0, .int .u8 0, .int .u8 0, .int .u8 0, .int .u8 0, .int .u8 0] 24)).heap.size (w.alloc (.cells #[.int .i64 0, .bool false, .int .i64 0, .int .u8 0, .int .u8 0, .int .u8 0, .int .u8 0, .int .u8 0, .int .u8 0, .int .u8 0, .int .u8 0] 24)) ((w.alloc (.cells #[.int .i64 0, .bool false, .int .i64 0, .int .u8 0, .int .u8 0, .int .u8 0, .int .u8 0, .int .u8 0, .int .u8 0, .int .u8 0, .int .u8 0] 24)).alloc (.cells #[.int .u8 m] 5)) := (Below.refl _ _).alloc (Nat.le_refl _) _; have hb3 := hba.trans (hb2.mono hba.size); have hf2 := FrAt.below HF.out hb3 HF.out.lt; have hbw2 := HB.out.trans (hb3.mono HB.out.size); have hf3 := hf2.row (1792 + nd) 1 false (dOf [m]); have hbw3 := below_setRow hbw2 (Nat.le_refl w.heap.size) #[.int .i64 (1792 + nd), .bool false, .int .i64 1, .int .u8 m, .int .u8 0, .int .u8 0, .int .u8 0, .int .u8 0, .int .u8 0, .int .u8 0, .int .u8 0]; have HF2 := Lib.hid hf2; have HF3 := Lib.hid hf3; have HB3 := Lib.hid hbw3; clear hb2 hba hb3 hf2 hbw2 hf3 hbw3)
    | (refine wpList_store_row rfl _ (.tmp 4) (.tmp 20) rfl w.heap.size _ rfl rfl _ _ HF2.out info_frame rfl (one_frame (1792 + nd) 1 false (dOf [m])) ?_))
  all_goals first | (exfalso; omega) | exact bodyPost_ret (results_cell_tmp_row rfl _ _ w.heap.size _ _ _ _ rfl HF3.out Try.underlying24 rfl info_frame) rfl ⟨rfl, HB3.out⟩
theorem bencode_node (nd m : Int) (w : World) (hn : isNI nd = false) :
    Calls Try.prog 7 #[.int .i64 nd, .int .i64 m] w fun e w' => e = .returned (.tuple #[.agg #[.int .i64 0, .bool false, .int .i64 0, .int .u8 0, .int .u8 0, .int .u8 0, .int .u8 0, .int .u8 0, .int .u8 0, .int .u8 0, .int .u8 0], .int .i64 3]) ∧ Below w.heap.size w w' := by
  have hN := bnode_any nd
  rw [hn] at hN
  have hf : FrAt (w.alloc (.cells #[.int .i64 0, .bool false, .int .i64 0, .int .u8 0, .int .u8 0, .int .u8 0, .int .u8 0, .int .u8 0, .int .u8 0, .int .u8 0, .int .u8 0] 24)) w.heap.size 0 false 0 (fun _ => 0) := frame_new w 0 0 false (fun _ => 0)
  have hb : Below w.heap.size w (w.alloc (.cells #[.int .i64 0, .bool false, .int .i64 0, .int .u8 0, .int .u8 0, .int .u8 0, .int .u8 0, .int .u8 0, .int .u8 0, .int .u8 0, .int .u8 0] 24)) := (Below.refl _ _).alloc (Nat.le_refl _) _
  have HN := Lib.hid hN
  have HF := Lib.hid hf
  have HB := Lib.hid hb
  clear hN hn hf hb
  go_enter Try.func7, Try.ntmps7
  go_wp2_with (first
    | (go_at_call 24; refine (HN.out _).mono ?_; rintro e w1 ⟨rfl, rfl⟩)
    | (refine wpList_store_row rfl _ (.tmp 4) (.tmp 9) rfl w.heap.size _ rfl rfl _ _ HF.out info_frame rfl (one_frame 0 0 false (fun _ => 0)) ?_))
  all_goals exact bodyPost_ret (results_cell_tmp_row rfl _ _ w.heap.size _ _ _ _ rfl (HF.out.row 0 0 false (fun _ => 0)) Try.underlying24 rfl info_frame) rfl ⟨rfl, below_setRow HB.out (Nat.le_refl _) _⟩
theorem bencode_mode (nd m : Int) (w : World) (hn : isNI nd = true) (hm : isMd m = false) :
    Calls Try.prog 7 #[.int .i64 nd, .int .i64 m] w fun e w' => e = .returned (.tuple #[.agg #[.int .i64 0, .bool false, .int .i64 0, .int .u8 0, .int .u8 0, .int .u8 0, .int .u8 0, .int .u8 0, .int .u8 0, .int .u8 0, .int .u8 0], .int .i64 2]) ∧ Below w.heap.size w w' := by
  have hN := bnode_any nd
  have hM := bmode_any m
  rw [hn] at hN
  rw [hm] at hM
  have hf : FrAt (w.alloc (.cells #[.int .i64 0, .bool false, .int .i64 0, .int .u8 0, .int .u8 0, .int .u8 0, .int .u8 0, .int .u8 0, .int .u8 0, .int .u8 0, .int .u8 0] 24)) w.heap.size 0 false 0 (fun _ => 0) := frame_new w 0 0 false (fun _ => 0)
  have hb : Below w.heap.size w (w.alloc (.cells #[.int .i64 0, .bool false, .int .i64 0, .int .u8 0, .int .u8 0, .int .u8 0, .int .u8 0, .int .u8 0, .int .u8 0, .int .u8 0, .int .u8 0] 24)) := (Below.refl _ _).alloc (Nat.le_refl _) _
  have HN := Lib.hid hN
  have HM := Lib.hid hM
  have HF := Lib.hid hf
  have HB := Lib.hid hb
  clear hN hM hn hm hf hb
  go_enter Try.func7, Try.ntmps7
  go_wp2_with (first
    | (go_at_call 24; refine (HN.out _).mono ?_; rintro e w1 ⟨rfl, rfl⟩)
    | (go_at_call 25; refine (HM.out _).mono ?_; rintro e w1 ⟨rfl, rfl⟩)
    | (refine wpList_store_row rfl _ (.tmp 4) (.tmp 13) rfl w.heap.size _ rfl rfl _ _ HF.out info_frame rfl (one_frame 0 0 false (fun _ => 0)) ?_))
  all_goals exact bodyPost_ret (results_cell_tmp_row rfl _ _ w.heap.size _ _ _ _ rfl (HF.out.row 0 0 false (fun _ => 0)) Try.underlying24 rfl info_frame) rfl ⟨rfl, below_setRow HB.out (Nat.le_refl _) _⟩
theorem rbencode_any (nd m : Int) (w : World) (h0 : 1 ≤ nd) (h1 : nd ≤ 127) (hm : isMd m = true) :
    Calls Try.prog 10 #[.int .i64 nd, .int .i64 m] w fun e w' => e = .returned (.agg #[.int .i64 (1792 + nd), .bool false, .int .i64 1, .int .u8 m, .int .u8 0, .int .u8 0, .int .u8 0, .int .u8 0, .int .u8 0, .int .u8 0, .int .u8 0]) ∧ Below w.heap.size w w' := by
  have hv := isM_in hm
  have wv : IntKind.u8.wrap m = m := IntWalk.u8_in m ⟨by omega, by omega⟩
  clear hm hv
  go_enter Try.func10, Try.ntmps10
  go_wp2_with fail
  exact bodyPost_ret (results_cell_row rfl _ _ w.heap.size _ _ _ _ rfl (heap_alloc2_old w _ _) Try.underlying24 rfl info_frame) rfl ⟨rfl, by go_grown⟩
end Go.Proofs.Ytiidgcgamcgipaa
