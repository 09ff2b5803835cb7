/- What must be whatever is asked. -/
import Derived.Test.YtkgnhmddnfmhjaaWireJ
namespace Go.Proofs.Ytkgnhmddnfmhjaa
open Go.RowKit

/-- The bits of the frame without anything. -/
def b0 : List Int := [0, 0, 0, 0, 0, 1, 0, 0, 0, 0, 0, 1, 0, 0, 0, 0, 0, 1, 0, 0, 0, 0, 0, 1, 0, 0, 0, 0, 0, 1, 0, 0, 0, 0, 0, 1, 0, 0, 0, 0, 1, 1, 1, 1, 1, 1, 1, 1, 1, 1]
theorem live_bits : encL 0 0 false [] = b0 := by decide +kernel
theorem live_head : HeadR b0 ⟨0, [], 0, 0⟩ 0 0 ((0 : Nat) : Int) ⟨22, [0, 0, 0, 0, 0, 0, 0, 0, 0, 0, 0, 0, 0, 0, 0, 0, 0, 0, 0], 0, 4⟩ :=
  ⟨⟨1, [0], 0, 1⟩, ⟨14, [0, 0, 0, 0, 0, 0, 0, 0, 0, 0, 0, 0], 0, 2⟩, ⟨15, [0, 0, 0, 0, 0, 0, 0, 0, 0, 0, 0, 0, 0], 0, 3⟩, ⟨17, [0, 0, 0, 0, 0, 0, 0, 0, 0, 0, 0, 0, 0, 0, 0], 0, 5⟩, by kernel_rfl, by kernel_rfl, by decide +kernel, by kernel_rfl, by kernel_rfl, by kernel_rfl, by decide +kernel, by decide⟩
theorem live_check : bitsO b0 15 ⟨22, [0, 0, 0, 0, 0, 0, 0, 0, 0, 0, 0, 0, 0, 0, 0, 0, 0, 0, 0], 0, 4⟩ = some ⟨40, [0, 0, 0, 0, 0, 0, 0, 0, 0, 0, 0, 0, 0, 0, 0, 0, 0, 0, 0, 0, 0, 0, 0, 0, 0, 0, 0, 0, 0, 0, 0, 0, 0, 0], 0, 4⟩ := by kernel_rfl
theorem live_crc0 : numV ⟨22, [0, 0, 0, 0, 0, 0, 0, 0, 0, 0, 0, 0, 0, 0, 0, 0, 0, 0, 0], 0, 4⟩ ⟨40, [0, 0, 0, 0, 0, 0, 0, 0, 0, 0, 0, 0, 0, 0, 0, 0, 0, 0, 0, 0, 0, 0, 0, 0, 0, 0, 0, 0, 0, 0, 0, 0, 0, 0], 0, 4⟩ = ((remN 15 17817 0 [0, 0, 0, 0, 0, 0, 0, 0, 0, 0, 0, 0, 0, 0, 0, 0, 0, 0, 0] : Nat) : Int) := by decide +kernel
theorem live_bet : betO b0 ⟨40, [0, 0, 0, 0, 0, 0, 0, 0, 0, 0, 0, 0, 0, 0, 0, 0, 0, 0, 0, 0, 0, 0, 0, 0, 0, 0, 0, 0, 0, 0, 0, 0, 0, 0], 0, 4⟩ = some ⟨40, [0, 0, 0, 0, 0, 0, 0, 0, 0, 0, 0, 0, 0, 0, 0, 0, 0, 0, 0, 0, 0, 0, 0, 0, 0, 0, 0, 0, 0, 0, 0, 0, 0, 0], 0, 4⟩ := by kernel_rfl
theorem live_tail : ∀ k, k < 10 → 40 + k < 50 ∧ (k ≠ 1 → b0.getD (40 + k) 0 % 2 = 1) := by decide +kernel
theorem live_chk : chk 0 false 0 (fun _ => 0) = 0 := by decide +kernel
theorem live_bof : bOf 0 false 0 (fun _ => 0) = [] := by decide +kernel
theorem live_worst : worstN 8 = 132 := by decide +kernel
theorem live_encode (w : World) : Calls Try.prog 6 #[.agg #[.int .i64 0, .bool false, .int .i64 0, .int .u8 0, .int .u8 0, .int .u8 0, .int .u8 0, .int .u8 0, .int .u8 0, .int .u8 0, .int .u8 0]] w fun e w' => ∃ A c, e = .returned (.tuple #[.slice A 50 c, .int .i64 0]) ∧ Byt w' w'.heap.size A 50 c b0 ∧ Below w.heap.size w w' := by
  have := encode_yes 0 0 false (fun _ => 0) w live_chk (fun j _ => by simp)
  rw [live_bof, live_bits] at this
  exact this
theorem live_decode (w : World) (A : Option Addr) (c : Nat) (h : Byt w w.heap.size A 50 c b0) : Calls Try.prog 13 #[.slice A 50 c] w fun e w' => e = .returned (.tuple #[.agg #[.int .i64 0, .bool false, .int .i64 0, .int .u8 0, .int .u8 0, .int .u8 0, .int .u8 0, .int .u8 0, .int .u8 0, .int .u8 0, .int .u8 0], .int .i64 50, .int .i64 0]) ∧ Below w.heap.size w w' :=
  decode_ok 0 0 false (fun _ => 0) ⟨50, [0, 0, 0, 0, 0, 0, 0, 0, 0, 0, 0, 0, 0, 0, 0, 0, 0, 0, 0, 0, 0, 0, 0, 0, 0, 0, 0, 0, 0, 0, 0, 0, 0, 0], 0, 4⟩ A 50 c b0 w h fun g v w0 hr =>
    frame_data (k := 0) (l := []) hr live_head rfl live_check live_crc0 live_bet live_tail (by simp)
theorem live5_any (w : World) : Calls Try.prog 9 #[] w fun e w' => e = .returned (.bool true) ∧ Below w.heap.size w w' := by
  have hcm : ∀ w : World, (Op.equalIn 10000 24 (.agg #[.int .i64 0, .bool false, .int .i64 0, .int .u8 0, .int .u8 0, .int .u8 0, .int .u8 0, .int .u8 0, .int .u8 0, .int .u8 0, .int .u8 0]) (.agg #[.int .i64 0, .bool false, .int .i64 0, .int .u8 0, .int .u8 0, .int .u8 0, .int .u8 0, .int .u8 0, .int .u8 0, .int .u8 0, .int .u8 0])).run Try.prog w = .ok true w := fun w => by rw [run_eq_frames _ _ _ _ _ _ _ (fun _ => 0) (fun _ => 0)]; simp [eqD]
  have hwo := fun w => worst_any 8 w
  rw [live_worst] at hwo
  have HWO := Lib.hid hwo
  clear hwo
  go_enter Try.func9, Try.ntmps9
  go_wp2_with (first
    | (go_at_call 6; refine (live_encode _).mono ?_; rintro e w1 ⟨A1, z1, rfl, hB1, hb1⟩)
    | (go_at_call 13; refine (live_decode _ _ _ hB1).mono ?_; rintro e w2 ⟨rfl, hb2⟩; have hbw := hb1.trans (hb2.mono hb1.size); have hx1 : FrAt (w2.alloc (.cells #[.int .i64 0, .bool false, .int .i64 0, .int .u8 0, .int .u8 0, .int .u8 0, .int .u8 0, .int .u8 0, .int .u8 0, .int .u8 0, .int .u8 0] 24)) w2.heap.size 0 false 0 (fun _ => 0) := heap_alloc_new w2 _; have hx2 := hx1.row 0 0 false (fun _ => 0); have hbw2 := below_setRow (hbw.alloc hbw.size (.cells #[.int .i64 0, .bool false, .int .i64 0, .int .u8 0, .int .u8 0, .int .u8 0, .int .u8 0, .int .u8 0, .int .u8 0, .int .u8 0, .int .u8 0] 24)) hbw.size #[.int .i64 0, .bool false, .int .i64 0, .int .u8 0, .int .u8 0, .int .u8 0, .int .u8 0, .int .u8 0, .int .u8 0, .int .u8 0, .int .u8 0]; have HX1 := Lib.hid hx1; have HB2 := Lib.hid hbw2; obtain ⟨c0, c1, c2, c3, c4, c5, c6, c7, c8, c9, c10⟩ := hx2.cells; clear hx1 hx2 hbw2 hbw hb1 hb2 hB1)
    | (refine wpList_store_row rfl _ (.tmp 3) (.tmp 14) rfl w2.heap.size _ rfl rfl _ _ HX1.out info_frame rfl (one_frame 0 0 false (fun _ => 0)) ?_)
    | (go_at_call 7; refine (HWO.out _).mono ?_; rintro e w3 ⟨rfl, rfl⟩))
  exact bodyPost_ret (results_tmp rfl _ _ _) rfl ⟨rfl, HB2.out⟩
end Go.Proofs.Ytkgnhmddnfmhjaa
