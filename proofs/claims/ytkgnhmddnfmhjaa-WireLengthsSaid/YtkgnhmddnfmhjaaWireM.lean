/- The statement WireLengths, walked. -/
import Derived.Test.YtkgnhmddnfmhjaaWireL
namespace Go.Proofs.Ytkgnhmddnfmhjaa
open Go.RowKit

theorem lengths_no (i n : Int) (r : Bool) (d : Nat → Int) (w : World) (hc : ¬ chk i r n d = 0) (hd : ∀ j, j < 8 → 0 ≤ d j ∧ d j ≤ 255) :
    Calls Try.prog 5 #[.agg #[.int .i64 i, .bool r, .int .i64 n, .int .u8 (d 0), .int .u8 (d 1), .int .u8 (d 2), .int .u8 (d 3), .int .u8 (d 4), .int .u8 (d 5), .int .u8 (d 6), .int .u8 (d 7)]] w fun e w' => e = .returned (.bool true) ∧ Below w.heap.size w w' := by
  have hck := fun w => dcheck_any i n r d w
  have hln := fun w => length_any i n r d w hd
  rw [show lenW i n r d = 0 from if_neg hc] at hln
  generalize chk i r n d = q at hck hc
  have HCK := Lib.hid hck
  have HLN := Lib.hid hln
  have hf := frame_new w i n r d
  have hb : Below w.heap.size w (w.alloc (.cells #[.int .i64 i, .bool r, .int .i64 n, .int .u8 (d 0), .int .u8 (d 1), .int .u8 (d 2), .int .u8 (d 3), .int .u8 (d 4), .int .u8 (d 5), .int .u8 (d 6), .int .u8 (d 7)] 24)) := (Below.refl _ _).alloc (Nat.le_refl _) _
  have HF := Lib.hid hf
  have HB := Lib.hid hb
  clear hf hb
  clear hck hln hd
  have hne : (q != 0) = true := by simp [hc]
  go_enter Try.func5, Try.ntmps5
  obtain ⟨c0, c1, c2, c3, c4, c5, c6, c7, c8, c9, c10⟩ := HF.out.cells
  go_wp2_with (first
    | (go_at_call 10; refine (HLN.out _).mono ?_; rintro e w1 ⟨rfl, hb1⟩; have hf1 := FrAt.below HF.out hb1 HF.out.lt; have hbw := HB.out.trans (hb1.mono HB.out.size); clear c0 c1 c2 c3 c4 c5 c6 c7 c8 c9 c10; obtain ⟨c0, c1, c2, c3, c4, c5, c6, c7, c8, c9, c10⟩ := hf1.cells; clear HF HB; have HF := Lib.hid hf1; have HB := Lib.hid hbw; clear hf1 hbw; clear hb1)
    | (go_at_call 8; refine (HCK.out _).mono ?_; rintro e w1 ⟨rfl, hb1⟩; have hf1 := FrAt.below HF.out hb1 HF.out.lt; have hbw := HB.out.trans (hb1.mono HB.out.size); clear c0 c1 c2 c3 c4 c5 c6 c7 c8 c9 c10; obtain ⟨c0, c1, c2, c3, c4, c5, c6, c7, c8, c9, c10⟩ := hf1.cells; clear HF HB; have HF := Lib.hid hf1; have HB := Lib.hid hbw; clear hf1 hbw; clear hb1)
    | (go_at_call 9; refine (live5_any _).mono ?_; rintro e w1 ⟨rfl, hb1⟩; have hf1 := FrAt.below HF.out hb1 HF.out.lt; have hbw := HB.out.trans (hb1.mono HB.out.size); clear c0 c1 c2 c3 c4 c5 c6 c7 c8 c9 c10; obtain ⟨c0, c1, c2, c3, c4, c5, c6, c7, c8, c9, c10⟩ := hf1.cells; clear HF HB; have HF := Lib.hid hf1; have HB := Lib.hid hbw; clear hf1 hbw; clear hb1))
  all_goals first
    | (exfalso; omega)
    | exact bodyPost_ret (results_tmp rfl _ _ _) rfl ⟨rfl, HB.out⟩
/-- A frame of so many bytes has at least 8n + 44 bits, and at most the worst. -/
theorem enc_bounds (i n : Int) (r : Bool) (d : Nat → Int) : 8 * (bOf i r n d).length + 44 ≤ (encL i n r (bOf i r n d)).length ∧ ((encL i n r (bOf i r n d)).length : Int) ≤ worstN (bOf i r n d).length := by
  have h1 := stuff_size (coreL i n r (bOf i r n d))
  have h2 := core_len i n r (bOf i r n d)
  have h3 := bof_le i n r d
  have h4 := enc_len i n r (bOf i r n d)
  have h5 : ¬ stuffL (coreL i n r (bOf i r n d)) = [] := fun e => by rw [e] at h1; simp only [List.length_nil] at h1; omega
  have h6 := tailN_pos h5
  refine ⟨by omega, ?_⟩
  unfold worstN
  rw [if_pos (by omega)]
  omega
theorem lengths_yes (i n : Int) (r : Bool) (d : Nat → Int) (w : World) (hc : chk i r n d = 0) (hd : ∀ j, j < 8 → 0 ≤ d j ∧ d j ≤ 255) :
    Calls Try.prog 5 #[.agg #[.int .i64 i, .bool r, .int .i64 n, .int .u8 (d 0), .int .u8 (d 1), .int .u8 (d 2), .int .u8 (d 3), .int .u8 (d 4), .int .u8 (d 5), .int .u8 (d 6), .int .u8 (d 7)]] w fun e w' => e = .returned (.bool true) ∧ Below w.heap.size w w' := by
  have hck := fun w => dcheck_any i n r d w
  rw [hc] at hck
  have hln := fun w => length_any i n r d w hd
  rw [show lenW i n r d = (encL i n r (bOf i r n d)).length from if_pos hc] at hln
  have hby : ∀ w : World, Calls Try.prog 15 #[.agg #[.int .i64 i, .bool r, .int .i64 n, .int .u8 (d 0), .int .u8 (d 1), .int .u8 (d 2), .int .u8 (d 3), .int .u8 (d 4), .int .u8 (d 5), .int .u8 (d 6), .int .u8 (d 7)]] w fun e w' => ∃ A c, e = .returned (.slice A (bOf i r n d).length c) ∧ Below w.heap.size w w' := fun w => (dbytes_any i n r d w hd).mono fun _ _ ⟨A, c, he, _, hb⟩ => ⟨A, c, he, hb⟩
  have hwo := fun w => worst_any ((bOf i r n d).length : Int) w
  obtain ⟨hb1, hb2⟩ := enc_bounds i n r d
  have h3 := bof_le i n r d
  generalize (bOf i r n d).length = m at hby hwo hb1 hb2 h3
  generalize (encL i n r (bOf i r n d)).length = k at hln hb1 hb2
  generalize worstN (m : Int) = z at hwo hb2
  have HCK := Lib.hid hck
  have HLN := Lib.hid hln
  have HBY := Lib.hid hby
  have HWO := Lib.hid hwo
  have hf := frame_new w i n r d
  have hb : Below w.heap.size w (w.alloc (.cells #[.int .i64 i, .bool r, .int .i64 n, .int .u8 (d 0), .int .u8 (d 1), .int .u8 (d 2), .int .u8 (d 3), .int .u8 (d 4), .int .u8 (d 5), .int .u8 (d 6), .int .u8 (d 7)] 24)) := (Below.refl _ _).alloc (Nat.le_refl _) _
  have HF := Lib.hid hf
  have HB := Lib.hid hb
  clear hf hb
  clear hck hln hby hwo hd hc
  go_enter Try.func5, Try.ntmps5
  obtain ⟨c0, c1, c2, c3, c4, c5, c6, c7, c8, c9, c10⟩ := HF.out.cells
  go_wp2_with (first
    | (go_at_call 10; refine (HLN.out _).mono ?_; rintro e w1 ⟨rfl, hb1⟩; have hf1 := FrAt.below HF.out hb1 HF.out.lt; have hbw := HB.out.trans (hb1.mono HB.out.size); clear c0 c1 c2 c3 c4 c5 c6 c7 c8 c9 c10; obtain ⟨c0, c1, c2, c3, c4, c5, c6, c7, c8, c9, c10⟩ := hf1.cells; clear HF HB; have HF := Lib.hid hf1; have HB := Lib.hid hbw; clear hf1 hbw; clear hb1)
    | (go_at_call 8; refine (HCK.out _).mono ?_; rintro e w1 ⟨rfl, hb1⟩; have hf1 := FrAt.below HF.out hb1 HF.out.lt; have hbw := HB.out.trans (hb1.mono HB.out.size); clear c0 c1 c2 c3 c4 c5 c6 c7 c8 c9 c10; obtain ⟨c0, c1, c2, c3, c4, c5, c6, c7, c8, c9, c10⟩ := hf1.cells; clear HF HB; have HF := Lib.hid hf1; have HB := Lib.hid hbw; clear hf1 hbw; clear hb1)
    | (go_at_call 9; refine (live5_any _).mono ?_; rintro e w1 ⟨rfl, hb1⟩; have hf1 := FrAt.below HF.out hb1 HF.out.lt; have hbw := HB.out.trans (hb1.mono HB.out.size); clear c0 c1 c2 c3 c4 c5 c6 c7 c8 c9 c10; obtain ⟨c0, c1, c2, c3, c4, c5, c6, c7, c8, c9, c10⟩ := hf1.cells; clear HF HB; have HF := Lib.hid hf1; have HB := Lib.hid hbw; clear hf1 hbw; clear hb1)
    | (go_at_call 15; refine (HBY.out _).mono ?_; rintro e w1 ⟨A1, z1, rfl, hb1⟩; have hf1 := FrAt.below HF.out hb1 HF.out.lt; have hbw := HB.out.trans (hb1.mono HB.out.size); clear c0 c1 c2 c3 c4 c5 c6 c7 c8 c9 c10; obtain ⟨c0, c1, c2, c3, c4, c5, c6, c7, c8, c9, c10⟩ := hf1.cells; clear HF HB; have HF := Lib.hid hf1; have HB := Lib.hid hbw; clear hf1 hbw; clear hb1)
    | (go_at_call 7; refine (HWO.out _).mono ?_; rintro e w1 ⟨rfl, rfl⟩))
  all_goals first
    | (exfalso; omega)
    | exact bodyPost_ret (results_tmp rfl _ _ _) rfl ⟨rfl, HB.out⟩
end Go.Proofs.Ytkgnhmddnfmhjaa
