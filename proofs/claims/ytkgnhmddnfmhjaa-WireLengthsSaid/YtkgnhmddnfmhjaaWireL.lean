/- The statements WireEncodes and WireLengths, walked. -/
import Derived.Test.YtkgnhmddnfmhjaaWireK
namespace Go.Proofs.Ytkgnhmddnfmhjaa
open Go.RowKit

theorem worst_cases (m : Int) : (m = 0 ∨ m = 1 ∨ m = 2 ∨ m = 3 ∨ m = 4 ∨ m = 5 ∨ m = 6 ∨ m = 7 ∨ m = 8) ∨ (m < 0 ∨ 8 < m) := by omega
set_option maxHeartbeats 4000000 in
theorem encodes_no (i n m : Int) (r : Bool) (d : Nat → Int) (w : World) (hc : ¬ chk i r n d = 0) (hd : ∀ j, j < 8 → 0 ≤ d j ∧ d j ≤ 255) :
    Calls Try.prog 3 #[.agg #[.int .i64 i, .bool r, .int .i64 n, .int .u8 (d 0), .int .u8 (d 1), .int .u8 (d 2), .int .u8 (d 3), .int .u8 (d 4), .int .u8 (d 5), .int .u8 (d 6), .int .u8 (d 7)], .int .i64 m] w fun e w' => e = .returned (.bool true) ∧ Below w.heap.size w w' := by
  have hen := fun w => encode_no i n r d w hc
  have hck := fun w => dcheck_any i n r d w
  have hln := fun w => length_any i n r d w hd
  have hl0 : lenW i n r d = 0 := if_neg hc
  rw [hl0] at hln
  generalize chk i r n d = q at hen hck hc
  have HEN := Lib.hid hen
  have HCK := Lib.hid hck
  have HLN := Lib.hid hln
  have hwo := fun w => worst_any m w
  have hf := frame_new w i n r d
  have hb : Below w.heap.size w (w.alloc (.cells #[.int .i64 i, .bool r, .int .i64 n, .int .u8 (d 0), .int .u8 (d 1), .int .u8 (d 2), .int .u8 (d 3), .int .u8 (d 4), .int .u8 (d 5), .int .u8 (d 6), .int .u8 (d 7)] 24)) := (Below.refl _ _).alloc (Nat.le_refl _) _
  have HF := Lib.hid hf
  have HB := Lib.hid hb
  clear hf hb
  clear hen hck hln hd hl0
  have hne : (q != 0) = true := by simp [hc]
  rcases worst_cases m with (rfl | rfl | rfl | rfl | rfl | rfl | rfl | rfl | rfl) | hm
  case inr =>
    rw [show worstN m = 0 from if_neg (by omega)] at hwo
    have HWO := Lib.hid hwo
    clear hwo
    go_enter Try.func3, Try.ntmps3
    obtain ⟨c0, c1, c2, c3, c4, c5, c6, c7, c8, c9, c10⟩ := HF.out.cells
    go_wp2_with (first
      | (go_at_call 7; refine (HWO.out _).mono ?_; rintro e w1 ⟨rfl, rfl⟩)
      | (go_at_call 6; refine (HEN.out _).mono ?_; rintro e w1 ⟨rfl, hb1⟩; have hf1 := FrAt.below HF.out hb1 HF.out.lt; have hbw := HB.out.trans (hb1.mono HB.out.size); clear c0 c1 c2 c3 c4 c5 c6 c7 c8 c9 c10; obtain ⟨c0, c1, c2, c3, c4, c5, c6, c7, c8, c9, c10⟩ := hf1.cells; clear HF HB; have HF := Lib.hid hf1; have HB := Lib.hid hbw; clear hf1 hbw; clear hb1)
      | (go_at_call 8; refine (HCK.out _).mono ?_; rintro e w1 ⟨rfl, hb1⟩; have hf1 := FrAt.below HF.out hb1 HF.out.lt; have hbw := HB.out.trans (hb1.mono HB.out.size); clear c0 c1 c2 c3 c4 c5 c6 c7 c8 c9 c10; obtain ⟨c0, c1, c2, c3, c4, c5, c6, c7, c8, c9, c10⟩ := hf1.cells; clear HF HB; have HF := Lib.hid hf1; have HB := Lib.hid hbw; clear hf1 hbw; clear hb1)
      | (go_at_call 9; refine (live5_any _).mono ?_; rintro e w1 ⟨rfl, hb1⟩; have hf1 := FrAt.below HF.out hb1 HF.out.lt; have hbw := HB.out.trans (hb1.mono HB.out.size); clear c0 c1 c2 c3 c4 c5 c6 c7 c8 c9 c10; obtain ⟨c0, c1, c2, c3, c4, c5, c6, c7, c8, c9, c10⟩ := hf1.cells; clear HF HB; have HF := Lib.hid hf1; have HB := Lib.hid hbw; clear hf1 hbw; clear hb1)
      | (go_at_call 10; refine (HLN.out _).mono ?_; rintro e w1 ⟨rfl, hb1⟩; have hf1 := FrAt.below HF.out hb1 HF.out.lt; have hbw := HB.out.trans (hb1.mono HB.out.size); clear c0 c1 c2 c3 c4 c5 c6 c7 c8 c9 c10; obtain ⟨c0, c1, c2, c3, c4, c5, c6, c7, c8, c9, c10⟩ := hf1.cells; clear HF HB; have HF := Lib.hid hf1; have HB := Lib.hid hbw; clear hf1 hbw; clear hb1))
    all_goals first
      | (exfalso; omega)
      | exact bodyPost_ret (results_tmp rfl _ _ _) rfl ⟨rfl, HB.out⟩
  all_goals
    simp [worstN] at hwo
    have HWO := Lib.hid hwo
    clear hwo
    go_enter Try.func3, Try.ntmps3
    obtain ⟨c0, c1, c2, c3, c4, c5, c6, c7, c8, c9, c10⟩ := HF.out.cells
    go_wp2_with (first
      | (go_at_call 7; refine (HWO.out _).mono ?_; rintro e w1 ⟨rfl, rfl⟩)
      | (go_at_call 6; refine (HEN.out _).mono ?_; rintro e w1 ⟨rfl, hb1⟩; have hf1 := FrAt.below HF.out hb1 HF.out.lt; have hbw := HB.out.trans (hb1.mono HB.out.size); clear c0 c1 c2 c3 c4 c5 c6 c7 c8 c9 c10; obtain ⟨c0, c1, c2, c3, c4, c5, c6, c7, c8, c9, c10⟩ := hf1.cells; clear HF HB; have HF := Lib.hid hf1; have HB := Lib.hid hbw; clear hf1 hbw; clear hb1)
      | (go_at_call 8; refine (HCK.out _).mono ?_; rintro e w1 ⟨rfl, hb1⟩; have hf1 := FrAt.below HF.out hb1 HF.out.lt; have hbw := HB.out.trans (hb1.mono HB.out.size); clear c0 c1 c2 c3 c4 c5 c6 c7 c8 c9 c10; obtain ⟨c0, c1, c2, c3, c4, c5, c6, c7, c8, c9, c10⟩ := hf1.cells; clear HF HB; have HF := Lib.hid hf1; have HB := Lib.hid hbw; clear hf1 hbw; clear hb1)
      | (go_at_call 9; refine (live5_any _).mono ?_; rintro e w1 ⟨rfl, hb1⟩; have hf1 := FrAt.below HF.out hb1 HF.out.lt; have hbw := HB.out.trans (hb1.mono HB.out.size); clear c0 c1 c2 c3 c4 c5 c6 c7 c8 c9 c10; obtain ⟨c0, c1, c2, c3, c4, c5, c6, c7, c8, c9, c10⟩ := hf1.cells; clear HF HB; have HF := Lib.hid hf1; have HB := Lib.hid hbw; clear hf1 hbw; clear hb1)
      | (go_at_call 10; refine (HLN.out _).mono ?_; rintro e w1 ⟨rfl, hb1⟩; have hf1 := FrAt.below HF.out hb1 HF.out.lt; have hbw := HB.out.trans (hb1.mono HB.out.size); clear c0 c1 c2 c3 c4 c5 c6 c7 c8 c9 c10; obtain ⟨c0, c1, c2, c3, c4, c5, c6, c7, c8, c9, c10⟩ := hf1.cells; clear HF HB; have HF := Lib.hid hf1; have HB := Lib.hid hbw; clear hf1 hbw; clear hb1))
    all_goals first
      | (exfalso; omega)
      | exact bodyPost_ret (results_tmp rfl _ _ _) rfl ⟨rfl, HB.out⟩
set_option maxHeartbeats 4000000 in
theorem encodes_yes (i n m : Int) (r : Bool) (d : Nat → Int) (w : World) (hc : chk i r n d = 0) (hd : ∀ j, j < 8 → 0 ≤ d j ∧ d j ≤ 255) :
    Calls Try.prog 3 #[.agg #[.int .i64 i, .bool r, .int .i64 n, .int .u8 (d 0), .int .u8 (d 1), .int .u8 (d 2), .int .u8 (d 3), .int .u8 (d 4), .int .u8 (d 5), .int .u8 (d 6), .int .u8 (d 7)], .int .i64 m] w fun e w' => e = .returned (.bool true) ∧ Below w.heap.size w w' := by
  have hen := fun w => encode_yes i n r d w hc hd
  have hde := fun w => dencode_yes i n r d w (chk_id hc) (chk_len hc) hd
  have hck := fun w => dcheck_any i n r d w
  rw [hc] at hck
  have hln := fun w => length_any i n r d w hd
  have hl0 : lenW i n r d = (encL i n r (bOf i r n d)).length := if_pos hc
  rw [hl0] at hln
  generalize encL i n r (bOf i r n d) = en at hen hde hln
  generalize hk : en.length = k at hen hde hln
  have hsm := fun (w : World) (A B : Option Addr) (c c' : Nat) (h : Byt w w.heap.size A k c en) (g : Byt w w.heap.size B k c' en) => same_any w A B k k c c' en en h g
  simp only [decide_true] at hsm
  have HEN := Lib.hid hen
  have HDE := Lib.hid hde
  have HCK := Lib.hid hck
  have HLN := Lib.hid hln
  have HSM := Lib.hid hsm
  have hwo := fun w => worst_any m w
  have hf := frame_new w i n r d
  have hb : Below w.heap.size w (w.alloc (.cells #[.int .i64 i, .bool r, .int .i64 n, .int .u8 (d 0), .int .u8 (d 1), .int .u8 (d 2), .int .u8 (d 3), .int .u8 (d 4), .int .u8 (d 5), .int .u8 (d 6), .int .u8 (d 7)] 24)) := (Below.refl _ _).alloc (Nat.le_refl _) _
  have HF := Lib.hid hf
  have HB := Lib.hid hb
  clear hf hb
  clear hen hde hck hln hd hl0 hsm hc hk
  rcases worst_cases m with (rfl | rfl | rfl | rfl | rfl | rfl | rfl | rfl | rfl) | hm
  case inr =>
    rw [show worstN m = 0 from if_neg (by omega)] at hwo
    have HWO := Lib.hid hwo
    clear hwo
    go_enter Try.func3, Try.ntmps3
    obtain ⟨c0, c1, c2, c3, c4, c5, c6, c7, c8, c9, c10⟩ := HF.out.cells
    go_wp2_with (first
      | (go_at_call 7; refine (HWO.out _).mono ?_; rintro e w1 ⟨rfl, rfl⟩)
      | (go_at_call 6; refine (HEN.out _).mono ?_; rintro e w1 ⟨A1, z1, rfl, hB1, hb1⟩; have H1 := Lib.hid hB1; clear hB1; have hf1 := FrAt.below HF.out hb1 HF.out.lt; have hbw := HB.out.trans (hb1.mono HB.out.size); clear c0 c1 c2 c3 c4 c5 c6 c7 c8 c9 c10; obtain ⟨c0, c1, c2, c3, c4, c5, c6, c7, c8, c9, c10⟩ := hf1.cells; clear HF HB; have HF := Lib.hid hf1; have HB := Lib.hid hbw; clear hf1 hbw; clear hb1)
      | (go_at_call 8; refine (HCK.out _).mono ?_; rintro e w1 ⟨rfl, hb1⟩; have hf1 := FrAt.below HF.out hb1 HF.out.lt; have hbw := HB.out.trans (hb1.mono HB.out.size); clear c0 c1 c2 c3 c4 c5 c6 c7 c8 c9 c10; obtain ⟨c0, c1, c2, c3, c4, c5, c6, c7, c8, c9, c10⟩ := hf1.cells; have hy1 := H1.out.step hb1; clear HF HB; have HF := Lib.hid hf1; have HB := Lib.hid hbw; clear hf1 hbw; clear H1; have H1 := Lib.hid hy1; clear hy1; clear hb1)
      | (go_at_call 11; refine (HDE.out _).mono ?_; rintro e w1 ⟨A2, z2, rfl, hB2, hb1⟩; have H2 := Lib.hid hB2; clear hB2; have hf1 := FrAt.below HF.out hb1 HF.out.lt; have hbw := HB.out.trans (hb1.mono HB.out.size); clear c0 c1 c2 c3 c4 c5 c6 c7 c8 c9 c10; obtain ⟨c0, c1, c2, c3, c4, c5, c6, c7, c8, c9, c10⟩ := hf1.cells; have hy1 := H1.out.step hb1; clear HF HB; have HF := Lib.hid hf1; have HB := Lib.hid hbw; clear hf1 hbw; clear H1; have H1 := Lib.hid hy1; clear hy1; clear hb1)
      | (go_at_call 9; refine (live5_any _).mono ?_; rintro e w1 ⟨rfl, hb1⟩; have hf1 := FrAt.below HF.out hb1 HF.out.lt; have hbw := HB.out.trans (hb1.mono HB.out.size); clear c0 c1 c2 c3 c4 c5 c6 c7 c8 c9 c10; obtain ⟨c0, c1, c2, c3, c4, c5, c6, c7, c8, c9, c10⟩ := hf1.cells; have hy1 := H1.out.step hb1; have hy2 := H2.out.step hb1; clear HF HB; have HF := Lib.hid hf1; have HB := Lib.hid hbw; clear hf1 hbw; clear H1; have H1 := Lib.hid hy1; clear hy1; clear H2; have H2 := Lib.hid hy2; clear hy2; clear hb1)
      | (go_at_call 12; refine (HSM.out _ _ _ _ _ H1.out H2.out).mono ?_; rintro e w1 ⟨rfl, hb1⟩; have hf1 := FrAt.below HF.out hb1 HF.out.lt; have hbw := HB.out.trans (hb1.mono HB.out.size); clear c0 c1 c2 c3 c4 c5 c6 c7 c8 c9 c10; obtain ⟨c0, c1, c2, c3, c4, c5, c6, c7, c8, c9, c10⟩ := hf1.cells; clear HF HB; have HF := Lib.hid hf1; have HB := Lib.hid hbw; clear hf1 hbw; clear hb1)
      | (go_at_call 10; refine (HLN.out _).mono ?_; rintro e w1 ⟨rfl, hb1⟩; have hf1 := FrAt.below HF.out hb1 HF.out.lt; have hbw := HB.out.trans (hb1.mono HB.out.size); clear c0 c1 c2 c3 c4 c5 c6 c7 c8 c9 c10; obtain ⟨c0, c1, c2, c3, c4, c5, c6, c7, c8, c9, c10⟩ := hf1.cells; clear HF HB; have HF := Lib.hid hf1; have HB := Lib.hid hbw; clear hf1 hbw; clear hb1))
    all_goals first
      | (exfalso; omega)
      | exact bodyPost_ret (results_tmp rfl _ _ _) rfl ⟨rfl, HB.out⟩
  all_goals
    simp [worstN] at hwo
    have HWO := Lib.hid hwo
    clear hwo
    go_enter Try.func3, Try.ntmps3
    obtain ⟨c0, c1, c2, c3, c4, c5, c6, c7, c8, c9, c10⟩ := HF.out.cells
    go_wp2_with (first
      | (go_at_call 7; refine (HWO.out _).mono ?_; rintro e w1 ⟨rfl, rfl⟩)
      | (go_at_call 6; refine (HEN.out _).mono ?_; rintro e w1 ⟨A1, z1, rfl, hB1, hb1⟩; have H1 := Lib.hid hB1; clear hB1; have hf1 := FrAt.below HF.out hb1 HF.out.lt; have hbw := HB.out.trans (hb1.mono HB.out.size); clear c0 c1 c2 c3 c4 c5 c6 c7 c8 c9 c10; obtain ⟨c0, c1, c2, c3, c4, c5, c6, c7, c8, c9, c10⟩ := hf1.cells; clear HF HB; have HF := Lib.hid hf1; have HB := Lib.hid hbw; clear hf1 hbw; clear hb1)
      | (go_at_call 8; refine (HCK.out _).mono ?_; rintro e w1 ⟨rfl, hb1⟩; have hf1 := FrAt.below HF.out hb1 HF.out.lt; have hbw := HB.out.trans (hb1.mono HB.out.size); clear c0 c1 c2 c3 c4 c5 c6 c7 c8 c9 c10; obtain ⟨c0, c1, c2, c3, c4, c5, c6, c7, c8, c9, c10⟩ := hf1.cells; have hy1 := H1.out.step hb1; clear HF HB; have HF := Lib.hid hf1; have HB := Lib.hid hbw; clear hf1 hbw; clear H1; have H1 := Lib.hid hy1; clear hy1; clear hb1)
      | (go_at_call 11; refine (HDE.out _).mono ?_; rintro e w1 ⟨A2, z2, rfl, hB2, hb1⟩; have H2 := Lib.hid hB2; clear hB2; have hf1 := FrAt.below HF.out hb1 HF.out.lt; have hbw := HB.out.trans (hb1.mono HB.out.size); clear c0 c1 c2 c3 c4 c5 c6 c7 c8 c9 c10; obtain ⟨c0, c1, c2, c3, c4, c5, c6, c7, c8, c9, c10⟩ := hf1.cells; have hy1 := H1.out.step hb1; clear HF HB; have HF := Lib.hid hf1; have HB := Lib.hid hbw; clear hf1 hbw; clear H1; have H1 := Lib.hid hy1; clear hy1; clear hb1)
      | (go_at_call 9; refine (live5_any _).mono ?_; rintro e w1 ⟨rfl, hb1⟩; have hf1 := FrAt.below HF.out hb1 HF.out.lt; have hbw := HB.out.trans (hb1.mono HB.out.size); clear c0 c1 c2 c3 c4 c5 c6 c7 c8 c9 c10; obtain ⟨c0, c1, c2, c3, c4, c5, c6, c7, c8, c9, c10⟩ := hf1.cells; have hy1 := H1.out.step hb1; have hy2 := H2.out.step hb1; clear HF HB; have HF := Lib.hid hf1; have HB := Lib.hid hbw; clear hf1 hbw; clear H1; have H1 := Lib.hid hy1; clear hy1; clear H2; have H2 := Lib.hid hy2; clear hy2; clear hb1)
      | (go_at_call 12; refine (HSM.out _ _ _ _ _ H1.out H2.out).mono ?_; rintro e w1 ⟨rfl, hb1⟩; have hf1 := FrAt.below HF.out hb1 HF.out.lt; have hbw := HB.out.trans (hb1.mono HB.out.size); clear c0 c1 c2 c3 c4 c5 c6 c7 c8 c9 c10; obtain ⟨c0, c1, c2, c3, c4, c5, c6, c7, c8, c9, c10⟩ := hf1.cells; clear HF HB; have HF := Lib.hid hf1; have HB := Lib.hid hbw; clear hf1 hbw; clear hb1)
      | (go_at_call 10; refine (HLN.out _).mono ?_; rintro e w1 ⟨rfl, hb1⟩; have hf1 := FrAt.below HF.out hb1 HF.out.lt; have hbw := HB.out.trans (hb1.mono HB.out.size); clear c0 c1 c2 c3 c4 c5 c6 c7 c8 c9 c10; obtain ⟨c0, c1, c2, c3, c4, c5, c6, c7, c8, c9, c10⟩ := hf1.cells; clear HF HB; have HF := Lib.hid hf1; have HB := Lib.hid hbw; clear hf1 hbw; clear hb1))
    all_goals first
      | (exfalso; omega)
      | exact bodyPost_ret (results_tmp rfl _ _ _) rfl ⟨rfl, HB.out⟩
end Go.Proofs.Ytkgnhmddnfmhjaa
