/- FrameMakes. -/
import Derived.Test.YtabakfhknkhdkaaFrameMakesA
namespace Go.Proofs.Ytabakfhknkhdkaa.frameMakes
open Go.RowKit Go.Proofs.Ytabakfhknkhdkaa

set_option maxHeartbeats 4000000 in
theorem short (w : World) (i0 n0 id n : Int) (r0 : Bool) (d0 : Nat → Int) (A : Option Addr) (m c : Nat) (l : List Int) (h : Byt w w.heap.size A m c l) (hm : m ≤ 20) (hd : ∀ j, j < 8 → 0 ≤ d0 j ∧ d0 j ≤ 255) :
    Calls Try.prog 3 #[.agg #[.int .i64 i0, .bool r0, .int .i64 n0, .int .u8 (d0 0), .int .u8 (d0 1), .int .u8 (d0 2), .int .u8 (d0 3), .int .u8 (d0 4), .int .u8 (d0 5), .int .u8 (d0 6), .int .u8 (d0 7)], .int .i64 id, .int .i64 n, .slice A m c] w fun e w' => e = .returned (.bool true) ∧ Below w.heap.size w w' := by
  have hmx := h.max
  have hcp := h.cap
  simp only [maxLen] at hmx
  obtain ⟨ix, nx, ex, rx, dx, hN, hD⟩ := new_both id m c A l
  have hf : FrAt (w.alloc (.cells #[.int .i64 i0, .bool r0, .int .i64 n0, .int .u8 (d0 0), .int .u8 (d0 1), .int .u8 (d0 2), .int .u8 (d0 3), .int .u8 (d0 4), .int .u8 (d0 5), .int .u8 (d0 6), .int .u8 (d0 7)] 24)) w.heap.size i0 r0 n0 d0 := frame_new w i0 n0 r0 d0
  have hb : Below w.heap.size w (w.alloc (.cells #[.int .i64 i0, .bool r0, .int .i64 n0, .int .u8 (d0 0), .int .u8 (d0 1), .int .u8 (d0 2), .int .u8 (d0 3), .int .u8 (d0 4), .int .u8 (d0 5), .int .u8 (d0 6), .int .u8 (d0 7)] 24)) := (Below.refl _ _).alloc (Nat.le_refl _) _
  have hs : w.heap.size < (w.alloc (.cells #[.int .i64 i0, .bool r0, .int .i64 n0, .int .u8 (d0 0), .int .u8 (d0 1), .int .u8 (d0 2), .int .u8 (d0 3), .int .u8 (d0 4), .int .u8 (d0 5), .int .u8 (d0 6), .int .u8 (d0 7)] 24)).heap.size := by simp
  have hby : Byt (w.alloc (.cells #[.int .i64 i0, .bool r0, .int .i64 n0, .int .u8 (d0 0), .int .u8 (d0 1), .int .u8 (d0 2), .int .u8 (d0 3), .int .u8 (d0 4), .int .u8 (d0 5), .int .u8 (d0 6), .int .u8 (d0 7)] 24)) (w.alloc (.cells #[.int .i64 i0, .bool r0, .int .i64 n0, .int .u8 (d0 0), .int .u8 (d0 1), .int .u8 (d0 2), .int .u8 (d0 3), .int .u8 (d0 4), .int .u8 (d0 5), .int .u8 (d0 6), .int .u8 (d0 7)] 24)).heap.size A m c l := (h.below hb).more hb.size
  have HN := Lib.hid hN
  have HD := Lib.hid hD
  have HB := Lib.hid hb
  have HF := Lib.hid hf
  have HS := Lib.hid hs
  have HBY := Lib.hid hby
  have HBW := Lib.hid h
  have HDD := Lib.hid hd
  clear hN hD hb hf hs hby h hd
  go_enter Try.func3, Try.ntmps3
  go_wp2_with (first | (go_at_call 8; refine (HN.out _ HBY.out).mono ?_; rintro e1 w1 ⟨rfl, hb1⟩; have hbw1 := HB.out.trans (hb1.mono HB.out.size); have hf1 := FrAt.below HF.out hb1 HS.out; have hx1 : FrAt (w1.alloc (.cells #[.int .i64 0, .bool false, .int .i64 0, .int .u8 0, .int .u8 0, .int .u8 0, .int .u8 0, .int .u8 0, .int .u8 0, .int .u8 0, .int .u8 0] 24)) w1.heap.size 0 false 0 (fun _ => 0) := heap_alloc_new w1 _; have hx2 := hx1.row ix nx rx dx; have hf2 := (hf1.below ((Below.refl w1.heap.size w1).alloc (Nat.le_refl _) (.cells #[.int .i64 0, .bool false, .int .i64 0, .int .u8 0, .int .u8 0, .int .u8 0, .int .u8 0, .int .u8 0, .int .u8 0, .int .u8 0, .int .u8 0] 24)) hf1.lt).row_other (Nat.ne_of_lt hf1.lt) #[.int .i64 ix, .bool rx, .int .i64 nx, .int .u8 (dx 0), .int .u8 (dx 1), .int .u8 (dx 2), .int .u8 (dx 3), .int .u8 (dx 4), .int .u8 (dx 5), .int .u8 (dx 6), .int .u8 (dx 7)]; have hbw2 := below_setRow (hbw1.alloc hbw1.size (.cells #[.int .i64 0, .bool false, .int .i64 0, .int .u8 0, .int .u8 0, .int .u8 0, .int .u8 0, .int .u8 0, .int .u8 0, .int .u8 0, .int .u8 0] 24)) hbw1.size #[.int .i64 ix, .bool rx, .int .i64 nx, .int .u8 (dx 0), .int .u8 (dx 1), .int .u8 (dx 2), .int .u8 (dx 3), .int .u8 (dx 4), .int .u8 (dx 5), .int .u8 (dx 6), .int .u8 (dx 7)]; have hby2 := (HBW.out.below hbw2).more hbw2.size; have HX1 := Lib.hid hx1; have HX2 := Lib.hid hx2; have HF2 := Lib.hid hf2; have HB2 := Lib.hid hbw2; have HBY2 := Lib.hid hby2; clear hb1 hbw1 hf1 hx1 hx2 hf2 hbw2 hby2) | (refine wpList_store_row rfl _ (.tmp 9) (.tmp 24) rfl w1.heap.size _ rfl rfl _ _ HX1.out info_frame rfl (one_frame ix nx rx dx) ?_) | (go_at_call 9; refine (HD.out _ HBY2.out).mono ?_; rintro e1 w2 ⟨rfl, hb2⟩; have hbw3 := HB2.out.trans (hb2.mono HB2.out.size); have hf3 := FrAt.below HF2.out hb2 HF2.out.lt; have hx3 := FrAt.below HX2.out hb2 HX2.out.lt; have hy1 : FrAt (w2.alloc (.cells #[.int .i64 0, .bool false, .int .i64 0, .int .u8 0, .int .u8 0, .int .u8 0, .int .u8 0, .int .u8 0, .int .u8 0, .int .u8 0, .int .u8 0] 24)) w2.heap.size 0 false 0 (fun _ => 0) := heap_alloc_new w2 _; have hy2 := hy1.row ix nx rx dx; have hf4 := (hf3.below ((Below.refl w2.heap.size w2).alloc (Nat.le_refl _) (.cells #[.int .i64 0, .bool false, .int .i64 0, .int .u8 0, .int .u8 0, .int .u8 0, .int .u8 0, .int .u8 0, .int .u8 0, .int .u8 0, .int .u8 0] 24)) hf3.lt).row_other (Nat.ne_of_lt hf3.lt) #[.int .i64 ix, .bool rx, .int .i64 nx, .int .u8 (dx 0), .int .u8 (dx 1), .int .u8 (dx 2), .int .u8 (dx 3), .int .u8 (dx 4), .int .u8 (dx 5), .int .u8 (dx 6), .int .u8 (dx 7)]; have hx4 := (hx3.below ((Below.refl w2.heap.size w2).alloc (Nat.le_refl _) (.cells #[.int .i64 0, .bool false, .int .i64 0, .int .u8 0, .int .u8 0, .int .u8 0, .int .u8 0, .int .u8 0, .int .u8 0, .int .u8 0, .int .u8 0] 24)) hx3.lt).row_other (Nat.ne_of_lt hx3.lt) #[.int .i64 ix, .bool rx, .int .i64 nx, .int .u8 (dx 0), .int .u8 (dx 1), .int .u8 (dx 2), .int .u8 (dx 3), .int .u8 (dx 4), .int .u8 (dx 5), .int .u8 (dx 6), .int .u8 (dx 7)]; have hbw4 := below_setRow (hbw3.alloc hbw3.size (.cells #[.int .i64 0, .bool false, .int .i64 0, .int .u8 0, .int .u8 0, .int .u8 0, .int .u8 0, .int .u8 0, .int .u8 0, .int .u8 0, .int .u8 0] 24)) hbw3.size #[.int .i64 ix, .bool rx, .int .i64 nx, .int .u8 (dx 0), .int .u8 (dx 1), .int .u8 (dx 2), .int .u8 (dx 3), .int .u8 (dx 4), .int .u8 (dx 5), .int .u8 (dx 6), .int .u8 (dx 7)]; have HY1 := Lib.hid hy1; have HY2 := Lib.hid hy2; have HF4 := Lib.hid hf4; have HX4 := Lib.hid hx4; have HB4 := Lib.hid hbw4; clear hb2 hbw3 hf3 hx3 hy1 hy2 hf4 hx4 hbw4) | (refine wpList_store_row rfl _ (.tmp 11) (.tmp 30) rfl w2.heap.size _ rfl rfl _ _ HY1.out info_frame rfl (one_frame ix nx rx dx) ?_))
  have hM : Mst i0 n0 ix nx r0 rx d0 dx w w1.heap.size w2.heap.size _ := ⟨HF4.out, HX4.out, HY2.out, HB4.out⟩
  clear HN HD HB HF HS HBY HBW HX1 HX2 HF2 HB2 HBY2 HY1 HY2 HF4 HX4 HB4
  generalize World.setRow (World.alloc w2 _) w2.heap.size _ = w4 at hM ⊢
  generalize w1.heap.size = gx at hM ⊢
  generalize w2.heap.size = gy at hM ⊢
  obtain ⟨iy, ny, ea, ry, dy, hea, hA, hok, hno⟩ := ask_both id n
  have hc1 : ∀ wr : World, Mst i0 n0 ix nx r0 rx d0 dx w gx gy wr → Calls Try.prog 10 #[.agg #[.int .i64 i0, .bool r0, .int .i64 n0, .int .u8 (d0 0), .int .u8 (d0 1), .int .u8 (d0 2), .int .u8 (d0 3), .int .u8 (d0 4), .int .u8 (d0 5), .int .u8 (d0 6), .int .u8 (d0 7)]] wr fun e w' => e = .returned (.int .i64 (chk i0 r0 n0 d0)) ∧ Mst i0 n0 ix nx r0 rx d0 dx w gx gy w' := fun wr h => (check_any i0 n0 r0 d0 wr).mono fun e w' ⟨he, hb⟩ => ⟨he, h.step hb⟩
  have hc2 : ∀ wr : World, Mst i0 n0 ix nx r0 rx d0 dx w gx gy wr → Calls Try.prog 11 #[.agg #[.int .i64 i0, .bool r0, .int .i64 n0, .int .u8 (d0 0), .int .u8 (d0 1), .int .u8 (d0 2), .int .u8 (d0 3), .int .u8 (d0 4), .int .u8 (d0 5), .int .u8 (d0 6), .int .u8 (d0 7)]] wr fun e w' => e = .returned (.int .i64 (chk i0 r0 n0 d0)) ∧ Mst i0 n0 ix nx r0 rx d0 dx w gx gy w' := fun wr h => (dcheck_any i0 n0 r0 d0 wr).mono fun e w' ⟨he, hb⟩ => ⟨he, h.step hb⟩
  have hb1 : ∀ wr : World, Mst i0 n0 ix nx r0 rx d0 dx w gx gy wr → Calls Try.prog 12 #[.agg #[.int .i64 i0, .bool r0, .int .i64 n0, .int .u8 (d0 0), .int .u8 (d0 1), .int .u8 (d0 2), .int .u8 (d0 3), .int .u8 (d0 4), .int .u8 (d0 5), .int .u8 (d0 6), .int .u8 (d0 7)]] wr fun e w' => ∃ A c, e = .returned (.slice A (bOf i0 r0 n0 d0).length c) ∧ Byt w' w'.heap.size A (bOf i0 r0 n0 d0).length c (bOf i0 r0 n0 d0) ∧ Mst i0 n0 ix nx r0 rx d0 dx w gx gy w' := fun wr h => (bytes_any i0 n0 r0 d0 wr HDD.out).mono fun e w' ⟨A, c, he, hB, hb⟩ => ⟨A, c, he, hB, h.step hb⟩
  have hb2 : ∀ wr : World, Mst i0 n0 ix nx r0 rx d0 dx w gx gy wr → Calls Try.prog 13 #[.agg #[.int .i64 i0, .bool r0, .int .i64 n0, .int .u8 (d0 0), .int .u8 (d0 1), .int .u8 (d0 2), .int .u8 (d0 3), .int .u8 (d0 4), .int .u8 (d0 5), .int .u8 (d0 6), .int .u8 (d0 7)]] wr fun e w' => ∃ A c, e = .returned (.slice A (bOf i0 r0 n0 d0).length c) ∧ Byt w' w'.heap.size A (bOf i0 r0 n0 d0).length c (bOf i0 r0 n0 d0) ∧ Mst i0 n0 ix nx r0 rx d0 dx w gx gy w' ∧ Below wr.heap.size wr w' := fun wr h => (dbytes_any i0 n0 r0 d0 wr HDD.out).mono fun e w' ⟨A, c, he, hB, hb⟩ => ⟨A, c, he, hB, h.step hb, hb⟩
  have hck : ∀ w : World, Calls Try.prog 11 #[.agg #[.int .i64 id, .bool true, .int .i64 n, .int .u8 0, .int .u8 0, .int .u8 0, .int .u8 0, .int .u8 0, .int .u8 0, .int .u8 0, .int .u8 0]] w fun e w' => e = .returned (.int .i64 ea) ∧ Below w.heap.size w w' := fun w => by rw [hea]; exact dcheck_any id n true (fun _ => 0) w
  have hcm : ∀ w : World, (Op.equalIn 10000 24 (.agg #[.int .i64 ix, .bool rx, .int .i64 nx, .int .u8 (dx 0), .int .u8 (dx 1), .int .u8 (dx 2), .int .u8 (dx 3), .int .u8 (dx 4), .int .u8 (dx 5), .int .u8 (dx 6), .int .u8 (dx 7)]) (.agg #[.int .i64 ix, .bool rx, .int .i64 nx, .int .u8 (dx 0), .int .u8 (dx 1), .int .u8 (dx 2), .int .u8 (dx 3), .int .u8 (dx 4), .int .u8 (dx 5), .int .u8 (dx 6), .int .u8 (dx 7)])).run Try.prog w = .ok true w := fun w => by rw [run_eq_frames]; simp [eqD]
  have h4 : Mst i0 n0 ix nx r0 rx d0 dx w gx gy w4.drew := ⟨hM.f, hM.x, hM.y, hM.bel.drew⟩
  have k4 := hM.cells
  generalize chk i0 r0 n0 d0 = q at hc1 hc2
  generalize bOf i0 r0 n0 d0 = lb at hb1 hb2
  have HC1 := Lib.hid hc1
  have HC2 := Lib.hid hc2
  have HB1 := Lib.hid hb1
  have HB2 := Lib.hid hb2
  have HCK := Lib.hid hck
  have HA := Lib.hid hA
  have HOK := Lib.hid hok
  have HNO := Lib.hid hno
  clear hc1 hc2 hb1 hb2 hck hA hok hno hea
  go_region_held (fun w' => (w'.cell? ⟨w.heap.size, 0, none⟩ = some (.int .i64 i0) ∧ w'.cell? ⟨w.heap.size, 1, none⟩ = some (.bool r0) ∧ w'.cell? ⟨w.heap.size, 2, none⟩ = some (.int .i64 n0) ∧ w'.cell? ⟨w.heap.size, 3, none⟩ = some (.int .u8 (d0 0)) ∧ w'.cell? ⟨w.heap.size, 4, none⟩ = some (.int .u8 (d0 1)) ∧ w'.cell? ⟨w.heap.size, 5, none⟩ = some (.int .u8 (d0 2)) ∧ w'.cell? ⟨w.heap.size, 6, none⟩ = some (.int .u8 (d0 3)) ∧ w'.cell? ⟨w.heap.size, 7, none⟩ = some (.int .u8 (d0 4)) ∧ w'.cell? ⟨w.heap.size, 8, none⟩ = some (.int .u8 (d0 5)) ∧ w'.cell? ⟨w.heap.size, 9, none⟩ = some (.int .u8 (d0 6)) ∧ w'.cell? ⟨w.heap.size, 10, none⟩ = some (.int .u8 (d0 7))) ∧ (w'.cell? ⟨gx, 0, none⟩ = some (.int .i64 ix) ∧ w'.cell? ⟨gx, 1, none⟩ = some (.bool rx) ∧ w'.cell? ⟨gx, 2, none⟩ = some (.int .i64 nx) ∧ w'.cell? ⟨gx, 3, none⟩ = some (.int .u8 (dx 0)) ∧ w'.cell? ⟨gx, 4, none⟩ = some (.int .u8 (dx 1)) ∧ w'.cell? ⟨gx, 5, none⟩ = some (.int .u8 (dx 2)) ∧ w'.cell? ⟨gx, 6, none⟩ = some (.int .u8 (dx 3)) ∧ w'.cell? ⟨gx, 7, none⟩ = some (.int .u8 (dx 4)) ∧ w'.cell? ⟨gx, 8, none⟩ = some (.int .u8 (dx 5)) ∧ w'.cell? ⟨gx, 9, none⟩ = some (.int .u8 (dx 6)) ∧ w'.cell? ⟨gx, 10, none⟩ = some (.int .u8 (dx 7))) ∧ (w'.cell? ⟨gy, 0, none⟩ = some (.int .i64 ix) ∧ w'.cell? ⟨gy, 1, none⟩ = some (.bool rx) ∧ w'.cell? ⟨gy, 2, none⟩ = some (.int .i64 nx) ∧ w'.cell? ⟨gy, 3, none⟩ = some (.int .u8 (dx 0)) ∧ w'.cell? ⟨gy, 4, none⟩ = some (.int .u8 (dx 1)) ∧ w'.cell? ⟨gy, 5, none⟩ = some (.int .u8 (dx 2)) ∧ w'.cell? ⟨gy, 6, none⟩ = some (.int .u8 (dx 3)) ∧ w'.cell? ⟨gy, 7, none⟩ = some (.int .u8 (dx 4)) ∧ w'.cell? ⟨gy, 8, none⟩ = some (.int .u8 (dx 5)) ∧ w'.cell? ⟨gy, 9, none⟩ = some (.int .u8 (dx 6)) ∧ w'.cell? ⟨gy, 10, none⟩ = some (.int .u8 (dx 7))))
    (first | exact k4 | exact k5 | exact k6 | exact k7 | exact k8)
    (first
      | (go_at_call 10
         (with_reducible refine (HC1.out w4.drew h4).mono ?_)
         rintro e u5 ⟨rfl, h5⟩
         have k5 := h5.cells)
      | (go_at_call 11
         (with_reducible refine (HC2.out u5 h5).mono ?_)
         rintro e u6 ⟨rfl, h6⟩
         have k6 := h6.cells)
      | (go_at_call 12
         (with_reducible refine (HB1.out u6 h6).mono ?_)
         rintro e u7 ⟨A7, c7, rfl, hB7, h7⟩
         have k7 := h7.cells
         have st7 := run_str 25 5 Try.underlying25 Try.underlying5 hB7 9 Try.underlying9)
      | (go_at_call 13
         (with_reducible refine (HB2.out u7 h7).mono ?_)
         rintro e u8 ⟨A8, c8, rfl, hB8, h8, hbb⟩
         have k8 := h8.cells
         have st8 := run_str 25 5 Try.underlying25 Try.underlying5 hB8 9 Try.underlying9
         have st9 := run_str 25 5 Try.underlying25 Try.underlying5 (hB7.step hbb) 9 Try.underlying9))
  all_goals
    have HM := Lib.hid h8
    clear k4 k5 k6 k7 k8 h4 h5 h6 h7 h8 hM hcm hbb
    by_cases hz : ea = 0
    · obtain ⟨h1, h2, rfl, rfl⟩ := HOK.out hz
      have h1 := h1.symm
      have h2 := h2.symm
      subst h1
      subst h2
      subst hz
      clear HNO HOK
      have hca : ∀ w : World, (Op.equalIn 10000 24 (.agg #[.int .i64 id, .bool true, .int .i64 n, .int .u8 0, .int .u8 0, .int .u8 0, .int .u8 0, .int .u8 0, .int .u8 0, .int .u8 0, .int .u8 0]) (.agg #[.int .i64 id, .bool true, .int .i64 n, .int .u8 0, .int .u8 0, .int .u8 0, .int .u8 0, .int .u8 0, .int .u8 0, .int .u8 0, .int .u8 0])).run Try.prog w = .ok true w := fun w => by rw [run_eq_frames _ _ _ _ _ _ _ (fun _ => 0) (fun _ => 0)]; simp [eqD]
      go_wp2_with (first | (go_at_call 14; refine (HA.out _).mono ?_; rintro e w5 ⟨rfl, hb5⟩; have hbw5 := HM.out.bel.trans (hb5.mono HM.out.bel.size); have ha1 : FrAt (w5.alloc (.cells #[.int .i64 0, .bool false, .int .i64 0, .int .u8 0, .int .u8 0, .int .u8 0, .int .u8 0, .int .u8 0, .int .u8 0, .int .u8 0, .int .u8 0] 24)) w5.heap.size 0 false 0 (fun _ => 0) := heap_alloc_new w5 _; have ha2 := ha1.row id n true (fun _ => 0); have hbw6 := below_setRow (hbw5.alloc hbw5.size (.cells #[.int .i64 0, .bool false, .int .i64 0, .int .u8 0, .int .u8 0, .int .u8 0, .int .u8 0, .int .u8 0, .int .u8 0, .int .u8 0, .int .u8 0] 24)) hbw5.size #[.int .i64 id, .bool true, .int .i64 n, .int .u8 0, .int .u8 0, .int .u8 0, .int .u8 0, .int .u8 0, .int .u8 0, .int .u8 0, .int .u8 0]; have HA1 := Lib.hid ha1; have HA2 := Lib.hid ha2; have HB6 := Lib.hid hbw6; clear hb5 hbw5 ha1 ha2 hbw6) | (refine wpList_store_row rfl _ (.tmp 13) (.tmp 60) rfl w5.heap.size _ rfl rfl _ _ HA1.out info_frame rfl (one_frame id n true (fun _ => 0)) ?_) | (go_at_call 11; refine (HCK.out _).mono ?_; rintro e w7 ⟨rfl, hb7⟩; have ha3 := FrAt.below HA2.out hb7 HA2.out.lt; have hbw7 := HB6.out.trans (hb7.mono HB6.out.size); have HA3 := Lib.hid ha3; have HB7 := Lib.hid hbw7; clear hb7 ha3 hbw7) | (go_at_call 7; refine (live4_any _).mono ?_; rintro e w8 ⟨rfl, hb8⟩; have ha4 := FrAt.below HA3.out hb8 HA3.out.lt; have hbw8 := HB7.out.trans (hb8.mono HB7.out.size); obtain ⟨c0, c1, c2, c3, c4, c5, c6, c7, c8, c9, c10⟩ := ha4.cells; have HB8 := Lib.hid hbw8; clear hb8 ha4 hbw8))
      all_goals first
        | (exfalso; omega)
        | exact bodyPost_ret (results_tmp rfl _ _ _) rfl ⟨rfl, HB8.out⟩
    · obtain ⟨rfl, rfl, rfl, rfl⟩ := HNO.out hz
      clear HNO HOK
      have hca : ∀ w : World, (Op.equalIn 10000 24 (.agg #[.int .i64 0, .bool false, .int .i64 0, .int .u8 0, .int .u8 0, .int .u8 0, .int .u8 0, .int .u8 0, .int .u8 0, .int .u8 0, .int .u8 0]) (.agg #[.int .i64 0, .bool false, .int .i64 0, .int .u8 0, .int .u8 0, .int .u8 0, .int .u8 0, .int .u8 0, .int .u8 0, .int .u8 0, .int .u8 0])).run Try.prog w = .ok true w := fun w => by rw [run_eq_frames _ _ _ _ _ _ _ (fun _ => 0) (fun _ => 0)]; simp [eqD]
      go_wp2_with (first | (go_at_call 14; refine (HA.out _).mono ?_; rintro e w5 ⟨rfl, hb5⟩; have hbw5 := HM.out.bel.trans (hb5.mono HM.out.bel.size); have ha1 : FrAt (w5.alloc (.cells #[.int .i64 0, .bool false, .int .i64 0, .int .u8 0, .int .u8 0, .int .u8 0, .int .u8 0, .int .u8 0, .int .u8 0, .int .u8 0, .int .u8 0] 24)) w5.heap.size 0 false 0 (fun _ => 0) := heap_alloc_new w5 _; have ha2 := ha1.row 0 0 false (fun _ => 0); have hbw6 := below_setRow (hbw5.alloc hbw5.size (.cells #[.int .i64 0, .bool false, .int .i64 0, .int .u8 0, .int .u8 0, .int .u8 0, .int .u8 0, .int .u8 0, .int .u8 0, .int .u8 0, .int .u8 0] 24)) hbw5.size #[.int .i64 0, .bool false, .int .i64 0, .int .u8 0, .int .u8 0, .int .u8 0, .int .u8 0, .int .u8 0, .int .u8 0, .int .u8 0, .int .u8 0]; have HA1 := Lib.hid ha1; have HA2 := Lib.hid ha2; have HB6 := Lib.hid hbw6; clear hb5 hbw5 ha1 ha2 hbw6) | (refine wpList_store_row rfl _ (.tmp 13) (.tmp 60) rfl w5.heap.size _ rfl rfl _ _ HA1.out info_frame rfl (one_frame 0 0 false (fun _ => 0)) ?_) | (go_at_call 11; refine (HCK.out _).mono ?_; rintro e w7 ⟨rfl, hb7⟩; have ha3 := FrAt.below HA2.out hb7 HA2.out.lt; have hbw7 := HB6.out.trans (hb7.mono HB6.out.size); have HA3 := Lib.hid ha3; have HB7 := Lib.hid hbw7; clear hb7 ha3 hbw7) | (go_at_call 7; refine (live4_any _).mono ?_; rintro e w8 ⟨rfl, hb8⟩; have ha4 := FrAt.below HA3.out hb8 HA3.out.lt; have hbw8 := HB7.out.trans (hb8.mono HB7.out.size); obtain ⟨c0, c1, c2, c3, c4, c5, c6, c7, c8, c9, c10⟩ := ha4.cells; have HB8 := Lib.hid hbw8; clear hb8 ha4 hbw8))
      all_goals first
        | (exfalso; omega)
        | exact bodyPost_ret (results_tmp rfl _ _ _) rfl ⟨rfl, HB8.out⟩
end Go.Proofs.Ytabakfhknkhdkaa.frameMakes
