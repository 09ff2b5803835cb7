/- pair: Make and Cause, both sides. -/
import Derived.Test.YtllaajkpobpeiaaOJb
namespace Go.Proofs.Ytllaajkpobpeiaa
open Go.RowKit
set_option linter.unusedSimpArgs false
set_option linter.unusedVariables false
/-- Two frames behind each other. -/
def TwAt (w : World) (g : Nat) (P Q : Int) (n : Nat) (d1 d2 : Nat → Int) : Prop := w.heap[g]? = some (.cells #[.int .i64 P, .bool false, .int .i64 (n : Int), .int .u8 (d1 0), .int .u8 (d1 1), .int .u8 (d1 2), .int .u8 (d1 3), .int .u8 (d1 4), .int .u8 (d1 5), .int .u8 (d1 6), .int .u8 (d1 7), .int .i64 Q, .bool false, .int .i64 (n : Int), .int .u8 (d2 0), .int .u8 (d2 1), .int .u8 (d2 2), .int .u8 (d2 3), .int .u8 (d2 4), .int .u8 (d2 5), .int .u8 (d2 6), .int .u8 (d2 7)] 57 (0, 0))
section
variable {w w' : World} {g : Nat} {P Q : Int} {n : Nat} {d1 d2 : Nat → Int}
theorem TwAt.lt (h : TwAt w g P Q n d1 d2) : g < w.heap.size := (Array.getElem?_eq_some_iff.1 h).1
theorem TwAt.below (h : TwAt w g P Q n d1 d2) (hb : Below w.heap.size w w') : TwAt w' g P Q n d1 d2 := (hb.block g h.lt).trans h
theorem TwAt.cells1 (h : TwAt w g P Q n d1 d2) : w.cell? ⟨g, 0, none⟩ = some (.int .i64 P) ∧ w.cell? ⟨g, 1, none⟩ = some (.bool false) ∧ w.cell? ⟨g, 2, none⟩ = some (.int .i64 (n : Int)) ∧ w.cell? ⟨g, 3, none⟩ = some (.int .u8 (d1 0)) ∧ w.cell? ⟨g, 4, none⟩ = some (.int .u8 (d1 1)) ∧ w.cell? ⟨g, 5, none⟩ = some (.int .u8 (d1 2)) ∧ w.cell? ⟨g, 6, none⟩ = some (.int .u8 (d1 3)) ∧ w.cell? ⟨g, 7, none⟩ = some (.int .u8 (d1 4)) ∧ w.cell? ⟨g, 8, none⟩ = some (.int .u8 (d1 5)) ∧ w.cell? ⟨g, 9, none⟩ = some (.int .u8 (d1 6)) ∧ w.cell? ⟨g, 10, none⟩ = some (.int .u8 (d1 7)) :=
  ⟨by rw [cell_of_row _ _ _ _ _ _ h]; rfl, by rw [cell_of_row _ _ _ _ _ _ h]; rfl, by rw [cell_of_row _ _ _ _ _ _ h]; rfl, by rw [cell_of_row _ _ _ _ _ _ h]; rfl, by rw [cell_of_row _ _ _ _ _ _ h]; rfl, by rw [cell_of_row _ _ _ _ _ _ h]; rfl, by rw [cell_of_row _ _ _ _ _ _ h]; rfl, by rw [cell_of_row _ _ _ _ _ _ h]; rfl, by rw [cell_of_row _ _ _ _ _ _ h]; rfl, by rw [cell_of_row _ _ _ _ _ _ h]; rfl, by rw [cell_of_row _ _ _ _ _ _ h]; rfl⟩
theorem TwAt.cells2 (h : TwAt w g P Q n d1 d2) : w.cell? ⟨g, 11, none⟩ = some (.int .i64 Q) ∧ w.cell? ⟨g, 12, none⟩ = some (.bool false) ∧ w.cell? ⟨g, 13, none⟩ = some (.int .i64 (n : Int)) ∧ w.cell? ⟨g, 14, none⟩ = some (.int .u8 (d2 0)) ∧ w.cell? ⟨g, 15, none⟩ = some (.int .u8 (d2 1)) ∧ w.cell? ⟨g, 16, none⟩ = some (.int .u8 (d2 2)) ∧ w.cell? ⟨g, 17, none⟩ = some (.int .u8 (d2 3)) ∧ w.cell? ⟨g, 18, none⟩ = some (.int .u8 (d2 4)) ∧ w.cell? ⟨g, 19, none⟩ = some (.int .u8 (d2 5)) ∧ w.cell? ⟨g, 20, none⟩ = some (.int .u8 (d2 6)) ∧ w.cell? ⟨g, 21, none⟩ = some (.int .u8 (d2 7)) :=
  ⟨by rw [cell_of_row _ _ _ _ _ _ h]; rfl, by rw [cell_of_row _ _ _ _ _ _ h]; rfl, by rw [cell_of_row _ _ _ _ _ _ h]; rfl, by rw [cell_of_row _ _ _ _ _ _ h]; rfl, by rw [cell_of_row _ _ _ _ _ _ h]; rfl, by rw [cell_of_row _ _ _ _ _ _ h]; rfl, by rw [cell_of_row _ _ _ _ _ _ h]; rfl, by rw [cell_of_row _ _ _ _ _ _ h]; rfl, by rw [cell_of_row _ _ _ _ _ _ h]; rfl, by rw [cell_of_row _ _ _ _ _ _ h]; rfl, by rw [cell_of_row _ _ _ _ _ _ h]; rfl⟩
end
theorem make_len (P Q : Int) (A : Option Addr) (n c : Nat) (l : List Int) (w : World) (h : Byt w w.heap.size A n c l) (hn : n = 0 ∨ 8 < n) : Calls Try.prog 47 #[.int .i64 P, .int .i64 Q, .slice A n c] w fun e w' => e = .returned (.tuple #[.slice none 0 0, .int .i64 11]) ∧ Below w.heap.size w w' := by
  have hmx := h.max
  have hcp := h.cap
  simp only [maxLen] at hmx
  clear h
  have HSZ := Lib.hid (size_any (n : Int) w)
  rw [show isZ (n : Int) = false from decide_eq_false (by omega)] at HSZ
  go_enter Try.func47, Try.ntmps47
  go_wp2_with (go_at_call 70; refine (HSZ.out).mono ?_; rintro e w0 ⟨rfl, rfl⟩)
  go_ret2
  exact ⟨rfl, Below.refl _ _⟩
set_option maxRecDepth 100000 in
set_option maxHeartbeats 1000000 in
theorem make_e1 (P Q E : Int) (A : Option Addr) (n c : Nat) (l : List Int) (w : World) (h : Byt w w.heap.size A n c l) (hn : 1 ≤ n ∧ n ≤ 8) (hE : chk P false n (dOf l) = E) (hE0 : ¬ E = 0) : Calls Try.prog 47 #[.int .i64 P, .int .i64 Q, .slice A n c] w fun e w' => e = .returned (.tuple #[.slice none 0 0, .int .i64 E]) ∧ Below w.heap.size w w' := by
  have hmx := h.max
  have hcp := h.cap
  simp only [maxLen] at hmx
  have hl := h.len
  have HB := Lib.hid h
  have HSZ := Lib.hid (size_any (n : Int) w)
  rw [show isZ (n : Int) = true from decide_eq_true (by omega)] at HSZ
  have hee : (E == 0) = false := by simpa using hE0
  have HN := Lib.hid (new_no P A n c l w h (by rw [hE]; exact hE0))
  rw [hE] at HN
  clear h hE hl
  go_enter Try.func47, Try.ntmps47
  go_upto_region 4 with (first
    | (go_at_call 70; refine (HSZ.out).mono ?_; rintro e w0 ⟨rfl, rfl⟩)
    | (go_at_call 71; refine (HN.out).mono ?_; rintro e w1 ⟨rfl, b1⟩; have HB1 := Lib.hid b1; have HZ1 := Lib.hid (frame_new w1 0 0 false (fun _ => 0)); clear b1)
    | (refine wpList_store_row rfl _ (.tmp 8) (.tmp 19) rfl w1.heap.size _ rfl rfl _ _ HZ1.out info_frame rfl (one_frame 0 0 false (fun _ => 0)) ?_))
  have HB2 := Lib.hid (show Below w.heap.size w ((w1.alloc (.cells #[.int .i64 0, .bool false, .int .i64 0, .int .u8 0, .int .u8 0, .int .u8 0, .int .u8 0, .int .u8 0, .int .u8 0, .int .u8 0, .int .u8 0] 57)).setRow w1.heap.size #[.int .i64 0, .bool false, .int .i64 0, .int .u8 0, .int .u8 0, .int .u8 0, .int .u8 0, .int .u8 0, .int .u8 0, .int .u8 0, .int .u8 0]) from below_setRow (HB1.out.alloc HB1.out.size _) HB1.out.size _)
  generalize (w1.alloc (.cells #[.int .i64 0, .bool false, .int .i64 0, .int .u8 0, .int .u8 0, .int .u8 0, .int .u8 0, .int .u8 0, .int .u8 0, .int .u8 0, .int .u8 0] 57)).setRow w1.heap.size #[.int .i64 0, .bool false, .int .i64 0, .int .u8 0, .int .u8 0, .int .u8 0, .int .u8 0, .int .u8 0, .int .u8 0, .int .u8 0, .int .u8 0] = w2 at *
  go_wp2_with fail
  go_ret2
  exact ⟨rfl, HB2.out⟩
set_option maxRecDepth 100000 in
set_option maxHeartbeats 2000000 in
theorem make_e2 (P Q E : Int) (A : Option Addr) (n c : Nat) (l : List Int) (w : World) (h : Byt w w.heap.size A n c l) (hn : 1 ≤ n ∧ n ≤ 8) (hE1 : chk P false n (dOf l) = 0) (hE : chk Q false n (dOf (flipL l)) = E) (hE0 : ¬ E = 0) : Calls Try.prog 47 #[.int .i64 P, .int .i64 Q, .slice A n c] w fun e w' => e = .returned (.tuple #[.slice none 0 0, .int .i64 E]) ∧ Below w.heap.size w w' := by
  have hmx := h.max
  have hcp := h.cap
  simp only [maxLen] at hmx
  have hl := h.len
  have HB := Lib.hid h
  have HSZ := Lib.hid (size_any (n : Int) w)
  rw [show isZ (n : Int) = true from decide_eq_true (by omega)] at HSZ
  have hee : (E == 0) = false := by simpa using hE0
  have HN := Lib.hid (new_ok P A n c l w h hE1)
  have HFL := Lib.hid (fun (x : World) (hx : Byt x x.heap.size A n c l) => by have := flip_any x A n c l hx (by omega); unfold FlipPost at this; rw [hl] at this; exact this)
  have HN2 := Lib.hid (fun (x : World) A' c' (hx : Byt x x.heap.size A' n c' (flipL l)) => by have := new_no Q A' n c' (flipL l) x hx (by rw [hE]; exact hE0); rw [hE] at this; exact this)
  clear h hE hE1 hl
  go_enter Try.func47, Try.ntmps47
  go_upto_region 4 with (first
    | (go_at_call 70; refine (HSZ.out).mono ?_; rintro e w0 ⟨rfl, rfl⟩)
    | (go_at_call 71; refine (HN.out).mono ?_; rintro e w1 ⟨rfl, b1⟩; have HB1 := Lib.hid b1; have HZ1 := Lib.hid (frame_new w1 0 0 false (fun _ => 0)); clear b1)
    | (refine wpList_store_row rfl _ (.tmp 8) (.tmp 19) rfl w1.heap.size _ rfl rfl _ _ HZ1.out info_frame rfl (one_frame P n false (dOf l)) ?_))
  have HB2 := Lib.hid (show Below w.heap.size w ((w1.alloc (.cells #[.int .i64 0, .bool false, .int .i64 0, .int .u8 0, .int .u8 0, .int .u8 0, .int .u8 0, .int .u8 0, .int .u8 0, .int .u8 0, .int .u8 0] 57)).setRow w1.heap.size #[.int .i64 P, .bool false, .int .i64 (n : Int), .int .u8 (dOf l 0), .int .u8 (dOf l 1), .int .u8 (dOf l 2), .int .u8 (dOf l 3), .int .u8 (dOf l 4), .int .u8 (dOf l 5), .int .u8 (dOf l 6), .int .u8 (dOf l 7)]) from below_setRow (HB1.out.alloc HB1.out.size _) HB1.out.size _)
  have HF2 := Lib.hid (show FrAt ((w1.alloc (.cells #[.int .i64 0, .bool false, .int .i64 0, .int .u8 0, .int .u8 0, .int .u8 0, .int .u8 0, .int .u8 0, .int .u8 0, .int .u8 0, .int .u8 0] 57)).setRow w1.heap.size #[.int .i64 P, .bool false, .int .i64 (n : Int), .int .u8 (dOf l 0), .int .u8 (dOf l 1), .int .u8 (dOf l 2), .int .u8 (dOf l 3), .int .u8 (dOf l 4), .int .u8 (dOf l 5), .int .u8 (dOf l 6), .int .u8 (dOf l 7)]) w1.heap.size P false n (dOf l) from HZ1.out.row P n false (dOf l))
  have HG2 := Lib.hid (show w.heap.size ≤ w1.heap.size from HB1.out.size)
  clear HB1 HZ1 HN
  generalize (w1.alloc (.cells #[.int .i64 0, .bool false, .int .i64 0, .int .u8 0, .int .u8 0, .int .u8 0, .int .u8 0, .int .u8 0, .int .u8 0, .int .u8 0, .int .u8 0] 57)).setRow w1.heap.size #[.int .i64 P, .bool false, .int .i64 (n : Int), .int .u8 (dOf l 0), .int .u8 (dOf l 1), .int .u8 (dOf l 2), .int .u8 (dOf l 3), .int .u8 (dOf l 4), .int .u8 (dOf l 5), .int .u8 (dOf l 6), .int .u8 (dOf l 7)] = w2 at *
  generalize w1.heap.size = g1 at *
  have HY2 := Lib.hid (HB.out.step HB2.out)
  go_upto_region 7 with (first
    | (go_at_call 72; refine (HFL.out _ HY2.out).mono ?_; rintro e w3 ⟨A', c', rfl, y3, b3⟩; have HY3 := Lib.hid y3; have HB3 := Lib.hid (kF b3 HB2.out); have HF3 := Lib.hid (HF2.out.below b3 HF2.out.lt); clear y3 b3)
    | (go_at_call 71; refine (HN2.out _ _ _ HY3.out).mono ?_; rintro e w4 ⟨rfl, b4⟩; have HB4 := Lib.hid (kF b4 HB3.out); have HF4 := Lib.hid (HF3.out.below b4 HF3.out.lt); have HZ4 := Lib.hid (frame_new w4 0 0 false (fun _ => 0)); clear b4)
    | (refine wpList_store_row rfl _ (.tmp 10) (.tmp 29) rfl w4.heap.size _ rfl rfl _ _ HZ4.out info_frame rfl (one_frame 0 0 false (fun _ => 0)) ?_))
  have HB5 := Lib.hid (show Below w.heap.size w ((w4.alloc (.cells #[.int .i64 0, .bool false, .int .i64 0, .int .u8 0, .int .u8 0, .int .u8 0, .int .u8 0, .int .u8 0, .int .u8 0, .int .u8 0, .int .u8 0] 57)).setRow w4.heap.size #[.int .i64 0, .bool false, .int .i64 0, .int .u8 0, .int .u8 0, .int .u8 0, .int .u8 0, .int .u8 0, .int .u8 0, .int .u8 0, .int .u8 0]) from below_setRow (HB4.out.alloc HB4.out.size _) HB4.out.size _)
  generalize (w4.alloc (.cells #[.int .i64 0, .bool false, .int .i64 0, .int .u8 0, .int .u8 0, .int .u8 0, .int .u8 0, .int .u8 0, .int .u8 0, .int .u8 0, .int .u8 0] 57)).setRow w4.heap.size #[.int .i64 0, .bool false, .int .i64 0, .int .u8 0, .int .u8 0, .int .u8 0, .int .u8 0, .int .u8 0, .int .u8 0, .int .u8 0, .int .u8 0] = w5 at *
  go_wp2_with fail
  go_ret2
  exact ⟨rfl, HB5.out⟩
set_option maxRecDepth 100000 in
set_option maxHeartbeats 4000000 in
theorem make_ok (P Q : Int) (A : Option Addr) (n c : Nat) (l : List Int) (w : World) (h : Byt w w.heap.size A n c l) (hn : 1 ≤ n ∧ n ≤ 8) (hE1 : chk P false n (dOf l) = 0) (hE2 : chk Q false n (dOf (flipL l)) = 0) : Calls Try.prog 47 #[.int .i64 P, .int .i64 Q, .slice A n c] w fun e w' => ∃ g, w.heap.size ≤ g ∧ e = .returned (.tuple #[.slice (some ⟨g, 0, none⟩) 2 2, .int .i64 0]) ∧ TwAt w' g P Q n (dOf l) (dOf (flipL l)) ∧ Below w.heap.size w w' := by
  have hmx := h.max
  have hcp := h.cap
  simp only [maxLen] at hmx
  have hl := h.len
  have HB := Lib.hid h
  have HSZ := Lib.hid (size_any (n : Int) w)
  rw [show isZ (n : Int) = true from decide_eq_true (by omega)] at HSZ
  have HN := Lib.hid (new_ok P A n c l w h hE1)
  have HFL := Lib.hid (fun (x : World) (hx : Byt x x.heap.size A n c l) => by have := flip_any x A n c l hx (by omega); unfold FlipPost at this; rw [hl] at this; exact this)
  have HN2 := Lib.hid (fun (x : World) A' c' (hx : Byt x x.heap.size A' n c' (flipL l)) => new_ok Q A' n c' (flipL l) x hx hE2)
  clear h hE1 hE2 hl
  go_enter Try.func47, Try.ntmps47
  go_upto_region 4 with (first
    | (go_at_call 70; refine (HSZ.out).mono ?_; rintro e w0 ⟨rfl, rfl⟩)
    | (go_at_call 71; refine (HN.out).mono ?_; rintro e w1 ⟨rfl, b1⟩; have HB1 := Lib.hid b1; have HZ1 := Lib.hid (frame_new w1 0 0 false (fun _ => 0)); clear b1)
    | (refine wpList_store_row rfl _ (.tmp 8) (.tmp 19) rfl w1.heap.size _ rfl rfl _ _ HZ1.out info_frame rfl (one_frame P n false (dOf l)) ?_))
  have HB2 := Lib.hid (show Below w.heap.size w ((w1.alloc (.cells #[.int .i64 0, .bool false, .int .i64 0, .int .u8 0, .int .u8 0, .int .u8 0, .int .u8 0, .int .u8 0, .int .u8 0, .int .u8 0, .int .u8 0] 57)).setRow w1.heap.size #[.int .i64 P, .bool false, .int .i64 (n : Int), .int .u8 (dOf l 0), .int .u8 (dOf l 1), .int .u8 (dOf l 2), .int .u8 (dOf l 3), .int .u8 (dOf l 4), .int .u8 (dOf l 5), .int .u8 (dOf l 6), .int .u8 (dOf l 7)]) from below_setRow (HB1.out.alloc HB1.out.size _) HB1.out.size _)
  have HF2 := Lib.hid (show FrAt ((w1.alloc (.cells #[.int .i64 0, .bool false, .int .i64 0, .int .u8 0, .int .u8 0, .int .u8 0, .int .u8 0, .int .u8 0, .int .u8 0, .int .u8 0, .int .u8 0] 57)).setRow w1.heap.size #[.int .i64 P, .bool false, .int .i64 (n : Int), .int .u8 (dOf l 0), .int .u8 (dOf l 1), .int .u8 (dOf l 2), .int .u8 (dOf l 3), .int .u8 (dOf l 4), .int .u8 (dOf l 5), .int .u8 (dOf l 6), .int .u8 (dOf l 7)]) w1.heap.size P false n (dOf l) from HZ1.out.row P n false (dOf l))
  have HG2 := Lib.hid (show w.heap.size ≤ w1.heap.size from HB1.out.size)
  clear HB1 HZ1 HN
  generalize (w1.alloc (.cells #[.int .i64 0, .bool false, .int .i64 0, .int .u8 0, .int .u8 0, .int .u8 0, .int .u8 0, .int .u8 0, .int .u8 0, .int .u8 0, .int .u8 0] 57)).setRow w1.heap.size #[.int .i64 P, .bool false, .int .i64 (n : Int), .int .u8 (dOf l 0), .int .u8 (dOf l 1), .int .u8 (dOf l 2), .int .u8 (dOf l 3), .int .u8 (dOf l 4), .int .u8 (dOf l 5), .int .u8 (dOf l 6), .int .u8 (dOf l 7)] = w2 at *
  generalize w1.heap.size = g1 at *
  have HY2 := Lib.hid (HB.out.step HB2.out)
  go_upto_region 7 with (first
    | (go_at_call 72; refine (HFL.out _ HY2.out).mono ?_; rintro e w3 ⟨A', c', rfl, y3, b3⟩; have HY3 := Lib.hid y3; have HB3 := Lib.hid (kF b3 HB2.out); have HF3 := Lib.hid (HF2.out.below b3 HF2.out.lt); clear y3 b3)
    | (go_at_call 71; refine (HN2.out _ _ _ HY3.out).mono ?_; rintro e w4 ⟨rfl, b4⟩; have HB4 := Lib.hid (kF b4 HB3.out); have HF4 := Lib.hid (HF3.out.below b4 HF3.out.lt); have HZ4 := Lib.hid (frame_new w4 0 0 false (fun _ => 0)); clear b4)
    | (refine wpList_store_row rfl _ (.tmp 10) (.tmp 29) rfl w4.heap.size _ rfl rfl _ _ HZ4.out info_frame rfl (one_frame Q n false (dOf (flipL l))) ?_))
  have HB5 := Lib.hid (show Below w.heap.size w ((w4.alloc (.cells #[.int .i64 0, .bool false, .int .i64 0, .int .u8 0, .int .u8 0, .int .u8 0, .int .u8 0, .int .u8 0, .int .u8 0, .int .u8 0, .int .u8 0] 57)).setRow w4.heap.size #[.int .i64 Q, .bool false, .int .i64 (n : Int), .int .u8 (dOf (flipL l) 0), .int .u8 (dOf (flipL l) 1), .int .u8 (dOf (flipL l) 2), .int .u8 (dOf (flipL l) 3), .int .u8 (dOf (flipL l) 4), .int .u8 (dOf (flipL l) 5), .int .u8 (dOf (flipL l) 6), .int .u8 (dOf (flipL l) 7)]) from below_setRow (HB4.out.alloc HB4.out.size _) HB4.out.size _)
  have HE5 := Lib.hid (show FrAt ((w4.alloc (.cells #[.int .i64 0, .bool false, .int .i64 0, .int .u8 0, .int .u8 0, .int .u8 0, .int .u8 0, .int .u8 0, .int .u8 0, .int .u8 0, .int .u8 0] 57)).setRow w4.heap.size #[.int .i64 Q, .bool false, .int .i64 (n : Int), .int .u8 (dOf (flipL l) 0), .int .u8 (dOf (flipL l) 1), .int .u8 (dOf (flipL l) 2), .int .u8 (dOf (flipL l) 3), .int .u8 (dOf (flipL l) 4), .int .u8 (dOf (flipL l) 5), .int .u8 (dOf (flipL l) 6), .int .u8 (dOf (flipL l) 7)]) w4.heap.size Q false n (dOf (flipL l)) from HZ4.out.row Q n false (dOf (flipL l)))
  have HF5 := Lib.hid (show FrAt ((w4.alloc (.cells #[.int .i64 0, .bool false, .int .i64 0, .int .u8 0, .int .u8 0, .int .u8 0, .int .u8 0, .int .u8 0, .int .u8 0, .int .u8 0, .int .u8 0] 57)).setRow w4.heap.size #[.int .i64 Q, .bool false, .int .i64 (n : Int), .int .u8 (dOf (flipL l) 0), .int .u8 (dOf (flipL l) 1), .int .u8 (dOf (flipL l) 2), .int .u8 (dOf (flipL l) 3), .int .u8 (dOf (flipL l) 4), .int .u8 (dOf (flipL l) 5), .int .u8 (dOf (flipL l) 6), .int .u8 (dOf (flipL l) 7)]) g1 P false n (dOf l) from (show FrAt (w4.alloc (.cells #[.int .i64 0, .bool false, .int .i64 0, .int .u8 0, .int .u8 0, .int .u8 0, .int .u8 0, .int .u8 0, .int .u8 0, .int .u8 0, .int .u8 0] 57)) g1 P false n (dOf l) from (heap_alloc_old w4 _ HF4.out.lt).trans HF4.out).row_other (Nat.ne_of_lt HF4.out.lt) _)
  clear HB4 HF4 HZ4 HF3 HF2 HB3 HB2 HY3 HY2
  generalize (w4.alloc (.cells #[.int .i64 0, .bool false, .int .i64 0, .int .u8 0, .int .u8 0, .int .u8 0, .int .u8 0, .int .u8 0, .int .u8 0, .int .u8 0, .int .u8 0] 57)).setRow w4.heap.size #[.int .i64 Q, .bool false, .int .i64 (n : Int), .int .u8 (dOf (flipL l) 0), .int .u8 (dOf (flipL l) 1), .int .u8 (dOf (flipL l) 2), .int .u8 (dOf (flipL l) 3), .int .u8 (dOf (flipL l) 4), .int .u8 (dOf (flipL l) 5), .int .u8 (dOf (flipL l) 6), .int .u8 (dOf (flipL l) 7)] = w5 at *
  generalize w4.heap.size = g2 at *
  have HX := Lib.hid (show TwAt (w5.alloc (.cells #[.int .i64 P, .bool false, .int .i64 (n : Int), .int .u8 (dOf l 0), .int .u8 (dOf l 1), .int .u8 (dOf l 2), .int .u8 (dOf l 3), .int .u8 (dOf l 4), .int .u8 (dOf l 5), .int .u8 (dOf l 6), .int .u8 (dOf l 7), .int .i64 Q, .bool false, .int .i64 (n : Int), .int .u8 (dOf (flipL l) 0), .int .u8 (dOf (flipL l) 1), .int .u8 (dOf (flipL l) 2), .int .u8 (dOf (flipL l) 3), .int .u8 (dOf (flipL l) 4), .int .u8 (dOf (flipL l) 5), .int .u8 (dOf (flipL l) 6), .int .u8 (dOf (flipL l) 7)] 57)) w5.heap.size P Q n (dOf l) (dOf (flipL l)) from heap_alloc_new w5 _)
  have HB6 := Lib.hid (HB5.out.alloc HB5.out.size (.cells #[.int .i64 P, .bool false, .int .i64 (n : Int), .int .u8 (dOf l 0), .int .u8 (dOf l 1), .int .u8 (dOf l 2), .int .u8 (dOf l 3), .int .u8 (dOf l 4), .int .u8 (dOf l 5), .int .u8 (dOf l 6), .int .u8 (dOf l 7), .int .i64 Q, .bool false, .int .i64 (n : Int), .int .u8 (dOf (flipL l) 0), .int .u8 (dOf (flipL l) 1), .int .u8 (dOf (flipL l) 2), .int .u8 (dOf (flipL l) 3), .int .u8 (dOf (flipL l) 4), .int .u8 (dOf (flipL l) 5), .int .u8 (dOf (flipL l) 6), .int .u8 (dOf (flipL l) 7)] 57))
  go_wp2_with (first
    | (refine wpList_load_row rfl _ (.tmp 8) rfl g1 rfl _ _ _ _ HF5.out Try.underlying57 rfl info_frame ?_)
    | (refine wpList_load_row rfl _ (.tmp 10) rfl g2 rfl _ _ _ _ HE5.out Try.underlying57 rfl info_frame ?_))
  go_ret2
  exact ⟨w5.heap.size, HB5.out.size, rfl, HX.out, HB6.out⟩
theorem dmake_len (P Q : Int) (A : Option Addr) (n c : Nat) (l : List Int) (w : World) (h : Byt w w.heap.size A n c l) (hn : n = 0 ∨ 8 < n) : Calls Try.prog 41 #[.int .i64 P, .int .i64 Q, .slice A n c] w fun e w' => e = .returned (.tuple #[.slice none 0 0, .int .i64 11]) ∧ Below w.heap.size w w' := by
  have hmx := h.max
  have hcp := h.cap
  simp only [maxLen] at hmx
  clear h
  rcases hn with rfl | hn
  · skip
    go_enter Try.func41, Try.ntmps41
    go_wp2_with fail
    go_ret2
    exact ⟨rfl, Below.refl _ _⟩
  · have h0 : ¬ n = 0 := by omega
    have h0i : ((n : Int) == 0) = false := by simp; omega
    go_enter Try.func41, Try.ntmps41
    go_wp2_with fail
    go_ret2
    exact ⟨rfl, Below.refl _ _⟩
set_option maxRecDepth 100000 in
set_option maxHeartbeats 1000000 in
theorem dmake_e1 (P Q E : Int) (A : Option Addr) (n c : Nat) (l : List Int) (w : World) (h : Byt w w.heap.size A n c l) (hn : 1 ≤ n ∧ n ≤ 8) (hE : chk P false n (dOf l) = E) (hE0 : ¬ E = 0) : Calls Try.prog 41 #[.int .i64 P, .int .i64 Q, .slice A n c] w fun e w' => e = .returned (.tuple #[.slice none 0 0, .int .i64 E]) ∧ Below w.heap.size w w' := by
  have hmx := h.max
  have hcp := h.cap
  simp only [maxLen] at hmx
  have hl := h.len
  have HB := Lib.hid h
  have h0 : ¬ n = 0 := by omega
  have h0i : ((n : Int) == 0) = false := by simp; omega
  have h8i : ¬ (8 : Int) < (n : Int) := by omega
  have hee : (E == 0) = false := by simpa using hE0
  have HN := Lib.hid (dnew_no P A n c l w h (by rw [hE]; exact hE0))
  rw [hE] at HN
  clear h hE hl
  go_enter Try.func41, Try.ntmps41
  go_upto_region 4 with (first
    | (go_at_call 69; refine (HN.out).mono ?_; rintro e w1 ⟨rfl, b1⟩; have HB1 := Lib.hid b1; have HZ1 := Lib.hid (frame_new w1 0 0 false (fun _ => 0)); clear b1)
    | (refine wpList_store_row rfl _ (.tmp 8) (.tmp 23) rfl w1.heap.size _ rfl rfl _ _ HZ1.out info_frame rfl (one_frame 0 0 false (fun _ => 0)) ?_))
  have HB2 := Lib.hid (show Below w.heap.size w ((w1.alloc (.cells #[.int .i64 0, .bool false, .int .i64 0, .int .u8 0, .int .u8 0, .int .u8 0, .int .u8 0, .int .u8 0, .int .u8 0, .int .u8 0, .int .u8 0] 57)).setRow w1.heap.size #[.int .i64 0, .bool false, .int .i64 0, .int .u8 0, .int .u8 0, .int .u8 0, .int .u8 0, .int .u8 0, .int .u8 0, .int .u8 0, .int .u8 0]) from below_setRow (HB1.out.alloc HB1.out.size _) HB1.out.size _)
  generalize (w1.alloc (.cells #[.int .i64 0, .bool false, .int .i64 0, .int .u8 0, .int .u8 0, .int .u8 0, .int .u8 0, .int .u8 0, .int .u8 0, .int .u8 0, .int .u8 0] 57)).setRow w1.heap.size #[.int .i64 0, .bool false, .int .i64 0, .int .u8 0, .int .u8 0, .int .u8 0, .int .u8 0, .int .u8 0, .int .u8 0, .int .u8 0, .int .u8 0] = w2 at *
  go_wp2_with fail
  go_ret2
  exact ⟨rfl, HB2.out⟩
set_option maxRecDepth 100000 in
set_option maxHeartbeats 2000000 in
theorem dmake_e2 (P Q E : Int) (A : Option Addr) (n c : Nat) (l : List Int) (w : World) (h : Byt w w.heap.size A n c l) (hn : 1 ≤ n ∧ n ≤ 8) (hE1 : chk P false n (dOf l) = 0) (hE : chk Q false n (dOf (flipL l)) = E) (hE0 : ¬ E = 0) : Calls Try.prog 41 #[.int .i64 P, .int .i64 Q, .slice A n c] w fun e w' => e = .returned (.tuple #[.slice none 0 0, .int .i64 E]) ∧ Below w.heap.size w w' := by
  have hmx := h.max
  have hcp := h.cap
  simp only [maxLen] at hmx
  have hl := h.len
  have HB := Lib.hid h
  have h0 : ¬ n = 0 := by omega
  have h0i : ((n : Int) == 0) = false := by simp; omega
  have h8i : ¬ (8 : Int) < (n : Int) := by omega
  have hee : (E == 0) = false := by simpa using hE0
  have HN := Lib.hid (dnew_ok P A n c l w h hE1)
  have HFL := Lib.hid (fun (x : World) (hx : Byt x x.heap.size A n c l) => by have := rflip_any x A n c l hx (by omega); unfold FlipPost at this; rw [hl] at this; exact this)
  have HN2 := Lib.hid (fun (x : World) A' c' (hx : Byt x x.heap.size A' n c' (flipL l)) => by have := dnew_no Q A' n c' (flipL l) x hx (by rw [hE]; exact hE0); rw [hE] at this; exact this)
  clear h hE hE1 hl
  go_enter Try.func41, Try.ntmps41
  go_upto_region 4 with (first
    | (go_at_call 69; refine (HN.out).mono ?_; rintro e w1 ⟨rfl, b1⟩; have HB1 := Lib.hid b1; have HZ1 := Lib.hid (frame_new w1 0 0 false (fun _ => 0)); clear b1)
    | (refine wpList_store_row rfl _ (.tmp 8) (.tmp 23) rfl w1.heap.size _ rfl rfl _ _ HZ1.out info_frame rfl (one_frame P n false (dOf l)) ?_))
  have HB2 := Lib.hid (show Below w.heap.size w ((w1.alloc (.cells #[.int .i64 0, .bool false, .int .i64 0, .int .u8 0, .int .u8 0, .int .u8 0, .int .u8 0, .int .u8 0, .int .u8 0, .int .u8 0, .int .u8 0] 57)).setRow w1.heap.size #[.int .i64 P, .bool false, .int .i64 (n : Int), .int .u8 (dOf l 0), .int .u8 (dOf l 1), .int .u8 (dOf l 2), .int .u8 (dOf l 3), .int .u8 (dOf l 4), .int .u8 (dOf l 5), .int .u8 (dOf l 6), .int .u8 (dOf l 7)]) from below_setRow (HB1.out.alloc HB1.out.size _) HB1.out.size _)
  have HF2 := Lib.hid (show FrAt ((w1.alloc (.cells #[.int .i64 0, .bool false, .int .i64 0, .int .u8 0, .int .u8 0, .int .u8 0, .int .u8 0, .int .u8 0, .int .u8 0, .int .u8 0, .int .u8 0] 57)).setRow w1.heap.size #[.int .i64 P, .bool false, .int .i64 (n : Int), .int .u8 (dOf l 0), .int .u8 (dOf l 1), .int .u8 (dOf l 2), .int .u8 (dOf l 3), .int .u8 (dOf l 4), .int .u8 (dOf l 5), .int .u8 (dOf l 6), .int .u8 (dOf l 7)]) w1.heap.size P false n (dOf l) from HZ1.out.row P n false (dOf l))
  have HG2 := Lib.hid (show w.heap.size ≤ w1.heap.size from HB1.out.size)
  clear HB1 HZ1 HN
  generalize (w1.alloc (.cells #[.int .i64 0, .bool false, .int .i64 0, .int .u8 0, .int .u8 0, .int .u8 0, .int .u8 0, .int .u8 0, .int .u8 0, .int .u8 0, .int .u8 0] 57)).setRow w1.heap.size #[.int .i64 P, .bool false, .int .i64 (n : Int), .int .u8 (dOf l 0), .int .u8 (dOf l 1), .int .u8 (dOf l 2), .int .u8 (dOf l 3), .int .u8 (dOf l 4), .int .u8 (dOf l 5), .int .u8 (dOf l 6), .int .u8 (dOf l 7)] = w2 at *
  generalize w1.heap.size = g1 at *
  have HY2 := Lib.hid (HB.out.step HB2.out)
  go_upto_region 7 with (first
    | (go_at_call 24; refine (HFL.out _ HY2.out).mono ?_; rintro e w3 ⟨A', c', rfl, y3, b3⟩; have HY3 := Lib.hid y3; have HB3 := Lib.hid (kF b3 HB2.out); have HF3 := Lib.hid (HF2.out.below b3 HF2.out.lt); clear y3 b3)
    | (go_at_call 69; refine (HN2.out _ _ _ HY3.out).mono ?_; rintro e w4 ⟨rfl, b4⟩; have HB4 := Lib.hid (kF b4 HB3.out); have HF4 := Lib.hid (HF3.out.below b4 HF3.out.lt); have HZ4 := Lib.hid (frame_new w4 0 0 false (fun _ => 0)); clear b4)
    | (refine wpList_store_row rfl _ (.tmp 10) (.tmp 33) rfl w4.heap.size _ rfl rfl _ _ HZ4.out info_frame rfl (one_frame 0 0 false (fun _ => 0)) ?_))
  have HB5 := Lib.hid (show Below w.heap.size w ((w4.alloc (.cells #[.int .i64 0, .bool false, .int .i64 0, .int .u8 0, .int .u8 0, .int .u8 0, .int .u8 0, .int .u8 0, .int .u8 0, .int .u8 0, .int .u8 0] 57)).setRow w4.heap.size #[.int .i64 0, .bool false, .int .i64 0, .int .u8 0, .int .u8 0, .int .u8 0, .int .u8 0, .int .u8 0, .int .u8 0, .int .u8 0, .int .u8 0]) from below_setRow (HB4.out.alloc HB4.out.size _) HB4.out.size _)
  generalize (w4.alloc (.cells #[.int .i64 0, .bool false, .int .i64 0, .int .u8 0, .int .u8 0, .int .u8 0, .int .u8 0, .int .u8 0, .int .u8 0, .int .u8 0, .int .u8 0] 57)).setRow w4.heap.size #[.int .i64 0, .bool false, .int .i64 0, .int .u8 0, .int .u8 0, .int .u8 0, .int .u8 0, .int .u8 0, .int .u8 0, .int .u8 0, .int .u8 0] = w5 at *
  go_wp2_with fail
  go_ret2
  exact ⟨rfl, HB5.out⟩
set_option maxRecDepth 100000 in
set_option maxHeartbeats 4000000 in
theorem dmake_ok (P Q : Int) (A : Option Addr) (n c : Nat) (l : List Int) (w : World) (h : Byt w w.heap.size A n c l) (hn : 1 ≤ n ∧ n ≤ 8) (hE1 : chk P false n (dOf l) = 0) (hE2 : chk Q false n (dOf (flipL l)) = 0) : Calls Try.prog 41 #[.int .i64 P, .int .i64 Q, .slice A n c] w fun e w' => ∃ g, w.heap.size ≤ g ∧ e = .returned (.tuple #[.slice (some ⟨g, 0, none⟩) 2 2, .int .i64 0]) ∧ TwAt w' g P Q n (dOf l) (dOf (flipL l)) ∧ Below w.heap.size w w' := by
  have hmx := h.max
  have hcp := h.cap
  simp only [maxLen] at hmx
  have hl := h.len
  have HB := Lib.hid h
  have h0 : ¬ n = 0 := by omega
  have h0i : ((n : Int) == 0) = false := by simp; omega
  have h8i : ¬ (8 : Int) < (n : Int) := by omega
  have HN := Lib.hid (dnew_ok P A n c l w h hE1)
  have HFL := Lib.hid (fun (x : World) (hx : Byt x x.heap.size A n c l) => by have := rflip_any x A n c l hx (by omega); unfold FlipPost at this; rw [hl] at this; exact this)
  have HN2 := Lib.hid (fun (x : World) A' c' (hx : Byt x x.heap.size A' n c' (flipL l)) => dnew_ok Q A' n c' (flipL l) x hx hE2)
  clear h hE1 hE2 hl
  go_enter Try.func41, Try.ntmps41
  go_upto_region 4 with (first
    | (go_at_call 69; refine (HN.out).mono ?_; rintro e w1 ⟨rfl, b1⟩; have HB1 := Lib.hid b1; have HZ1 := Lib.hid (frame_new w1 0 0 false (fun _ => 0)); clear b1)
    | (refine wpList_store_row rfl _ (.tmp 8) (.tmp 23) rfl w1.heap.size _ rfl rfl _ _ HZ1.out info_frame rfl (one_frame P n false (dOf l)) ?_))
  have HB2 := Lib.hid (show Below w.heap.size w ((w1.alloc (.cells #[.int .i64 0, .bool false, .int .i64 0, .int .u8 0, .int .u8 0, .int .u8 0, .int .u8 0, .int .u8 0, .int .u8 0, .int .u8 0, .int .u8 0] 57)).setRow w1.heap.size #[.int .i64 P, .bool false, .int .i64 (n : Int), .int .u8 (dOf l 0), .int .u8 (dOf l 1), .int .u8 (dOf l 2), .int .u8 (dOf l 3), .int .u8 (dOf l 4), .int .u8 (dOf l 5), .int .u8 (dOf l 6), .int .u8 (dOf l 7)]) from below_setRow (HB1.out.alloc HB1.out.size _) HB1.out.size _)
  have HF2 := Lib.hid (show FrAt ((w1.alloc (.cells #[.int .i64 0, .bool false, .int .i64 0, .int .u8 0, .int .u8 0, .int .u8 0, .int .u8 0, .int .u8 0, .int .u8 0, .int .u8 0, .int .u8 0] 57)).setRow w1.heap.size #[.int .i64 P, .bool false, .int .i64 (n : Int), .int .u8 (dOf l 0), .int .u8 (dOf l 1), .int .u8 (dOf l 2), .int .u8 (dOf l 3), .int .u8 (dOf l 4), .int .u8 (dOf l 5), .int .u8 (dOf l 6), .int .u8 (dOf l 7)]) w1.heap.size P false n (dOf l) from HZ1.out.row P n false (dOf l))
  have HG2 := Lib.hid (show w.heap.size ≤ w1.heap.size from HB1.out.size)
  clear HB1 HZ1 HN
  generalize (w1.alloc (.cells #[.int .i64 0, .bool false, .int .i64 0, .int .u8 0, .int .u8 0, .int .u8 0, .int .u8 0, .int .u8 0, .int .u8 0, .int .u8 0, .int .u8 0] 57)).setRow w1.heap.size #[.int .i64 P, .bool false, .int .i64 (n : Int), .int .u8 (dOf l 0), .int .u8 (dOf l 1), .int .u8 (dOf l 2), .int .u8 (dOf l 3), .int .u8 (dOf l 4), .int .u8 (dOf l 5), .int .u8 (dOf l 6), .int .u8 (dOf l 7)] = w2 at *
  generalize w1.heap.size = g1 at *
  have HY2 := Lib.hid (HB.out.step HB2.out)
  go_upto_region 7 with (first
    | (go_at_call 24; refine (HFL.out _ HY2.out).mono ?_; rintro e w3 ⟨A', c', rfl, y3, b3⟩; have HY3 := Lib.hid y3; have HB3 := Lib.hid (kF b3 HB2.out); have HF3 := Lib.hid (HF2.out.below b3 HF2.out.lt); clear y3 b3)
    | (go_at_call 69; refine (HN2.out _ _ _ HY3.out).mono ?_; rintro e w4 ⟨rfl, b4⟩; have HB4 := Lib.hid (kF b4 HB3.out); have HF4 := Lib.hid (HF3.out.below b4 HF3.out.lt); have HZ4 := Lib.hid (frame_new w4 0 0 false (fun _ => 0)); clear b4)
    | (refine wpList_store_row rfl _ (.tmp 10) (.tmp 33) rfl w4.heap.size _ rfl rfl _ _ HZ4.out info_frame rfl (one_frame Q n false (dOf (flipL l))) ?_))
  have HB5 := Lib.hid (show Below w.heap.size w ((w4.alloc (.cells #[.int .i64 0, .bool false, .int .i64 0, .int .u8 0, .int .u8 0, .int .u8 0, .int .u8 0, .int .u8 0, .int .u8 0, .int .u8 0, .int .u8 0] 57)).setRow w4.heap.size #[.int .i64 Q, .bool false, .int .i64 (n : Int), .int .u8 (dOf (flipL l) 0), .int .u8 (dOf (flipL l) 1), .int .u8 (dOf (flipL l) 2), .int .u8 (dOf (flipL l) 3), .int .u8 (dOf (flipL l) 4), .int .u8 (dOf (flipL l) 5), .int .u8 (dOf (flipL l) 6), .int .u8 (dOf (flipL l) 7)]) from below_setRow (HB4.out.alloc HB4.out.size _) HB4.out.size _)
  have HE5 := Lib.hid (show FrAt ((w4.alloc (.cells #[.int .i64 0, .bool false, .int .i64 0, .int .u8 0, .int .u8 0, .int .u8 0, .int .u8 0, .int .u8 0, .int .u8 0, .int .u8 0, .int .u8 0] 57)).setRow w4.heap.size #[.int .i64 Q, .bool false, .int .i64 (n : Int), .int .u8 (dOf (flipL l) 0), .int .u8 (dOf (flipL l) 1), .int .u8 (dOf (flipL l) 2), .int .u8 (dOf (flipL l) 3), .int .u8 (dOf (flipL l) 4), .int .u8 (dOf (flipL l) 5), .int .u8 (dOf (flipL l) 6), .int .u8 (dOf (flipL l) 7)]) w4.heap.size Q false n (dOf (flipL l)) from HZ4.out.row Q n false (dOf (flipL l)))
  have HF5 := Lib.hid (show FrAt ((w4.alloc (.cells #[.int .i64 0, .bool false, .int .i64 0, .int .u8 0, .int .u8 0, .int .u8 0, .int .u8 0, .int .u8 0, .int .u8 0, .int .u8 0, .int .u8 0] 57)).setRow w4.heap.size #[.int .i64 Q, .bool false, .int .i64 (n : Int), .int .u8 (dOf (flipL l) 0), .int .u8 (dOf (flipL l) 1), .int .u8 (dOf (flipL l) 2), .int .u8 (dOf (flipL l) 3), .int .u8 (dOf (flipL l) 4), .int .u8 (dOf (flipL l) 5), .int .u8 (dOf (flipL l) 6), .int .u8 (dOf (flipL l) 7)]) g1 P false n (dOf l) from (show FrAt (w4.alloc (.cells #[.int .i64 0, .bool false, .int .i64 0, .int .u8 0, .int .u8 0, .int .u8 0, .int .u8 0, .int .u8 0, .int .u8 0, .int .u8 0, .int .u8 0] 57)) g1 P false n (dOf l) from (heap_alloc_old w4 _ HF4.out.lt).trans HF4.out).row_other (Nat.ne_of_lt HF4.out.lt) _)
  clear HB4 HF4 HZ4 HF3 HF2 HB3 HB2 HY3 HY2
  generalize (w4.alloc (.cells #[.int .i64 0, .bool false, .int .i64 0, .int .u8 0, .int .u8 0, .int .u8 0, .int .u8 0, .int .u8 0, .int .u8 0, .int .u8 0, .int .u8 0] 57)).setRow w4.heap.size #[.int .i64 Q, .bool false, .int .i64 (n : Int), .int .u8 (dOf (flipL l) 0), .int .u8 (dOf (flipL l) 1), .int .u8 (dOf (flipL l) 2), .int .u8 (dOf (flipL l) 3), .int .u8 (dOf (flipL l) 4), .int .u8 (dOf (flipL l) 5), .int .u8 (dOf (flipL l) 6), .int .u8 (dOf (flipL l) 7)] = w5 at *
  generalize w4.heap.size = g2 at *
  have HX := Lib.hid (show TwAt (w5.alloc (.cells #[.int .i64 P, .bool false, .int .i64 (n : Int), .int .u8 (dOf l 0), .int .u8 (dOf l 1), .int .u8 (dOf l 2), .int .u8 (dOf l 3), .int .u8 (dOf l 4), .int .u8 (dOf l 5), .int .u8 (dOf l 6), .int .u8 (dOf l 7), .int .i64 Q, .bool false, .int .i64 (n : Int), .int .u8 (dOf (flipL l) 0), .int .u8 (dOf (flipL l) 1), .int .u8 (dOf (flipL l) 2), .int .u8 (dOf (flipL l) 3), .int .u8 (dOf (flipL l) 4), .int .u8 (dOf (flipL l) 5), .int .u8 (dOf (flipL l) 6), .int .u8 (dOf (flipL l) 7)] 57)) w5.heap.size P Q n (dOf l) (dOf (flipL l)) from heap_alloc_new w5 _)
  have HB6 := Lib.hid (HB5.out.alloc HB5.out.size (.cells #[.int .i64 P, .bool false, .int .i64 (n : Int), .int .u8 (dOf l 0), .int .u8 (dOf l 1), .int .u8 (dOf l 2), .int .u8 (dOf l 3), .int .u8 (dOf l 4), .int .u8 (dOf l 5), .int .u8 (dOf l 6), .int .u8 (dOf l 7), .int .i64 Q, .bool false, .int .i64 (n : Int), .int .u8 (dOf (flipL l) 0), .int .u8 (dOf (flipL l) 1), .int .u8 (dOf (flipL l) 2), .int .u8 (dOf (flipL l) 3), .int .u8 (dOf (flipL l) 4), .int .u8 (dOf (flipL l) 5), .int .u8 (dOf (flipL l) 6), .int .u8 (dOf (flipL l) 7)] 57))
  go_wp2_with (first
    | (refine wpList_load_row rfl _ (.tmp 8) rfl g1 rfl _ _ _ _ HF5.out Try.underlying57 rfl info_frame ?_)
    | (refine wpList_load_row rfl _ (.tmp 10) rfl g2 rfl _ _ _ _ HE5.out Try.underlying57 rfl info_frame ?_))
  go_ret2
  exact ⟨w5.heap.size, HB5.out.size, rfl, HX.out, HB6.out⟩
def cauE (t : Int) : Int := if 3 ≤ t ∧ t ≤ 5 then t - 2 else 0
theorem cause_any (t : Int) (w : World) : Calls Try.prog 67 #[.int .i64 t] w fun e w' => e = .returned (.int .i64 (cauE t)) ∧ w = w' := by
  have hcs : t = 3 ∨ t = 4 ∨ t = 5 ∨ (¬ t = 3 ∧ ¬ t = 4 ∧ ¬ t = 5) := by omega
  rcases hcs with rfl | rfl | rfl | ⟨h1, h2, h3⟩
  · go_enter Try.func67, Try.ntmps67; go_wp2; go_ret; exact ⟨rfl, rfl⟩
  · go_enter Try.func67, Try.ntmps67; go_wp2; go_ret; exact ⟨rfl, rfl⟩
  · go_enter Try.func67, Try.ntmps67; go_wp2; go_ret; exact ⟨rfl, rfl⟩
  · rw [show cauE t = 0 from if_neg (by omega)]
    have g1 : (t == 3) = false := by simpa using h1
    have g2 : (t == 4) = false := by simpa using h2
    have g3 : (t == 5) = false := by simpa using h3
    go_enter Try.func67, Try.ntmps67; go_wp2; go_ret; exact ⟨rfl, rfl⟩
end Go.Proofs.Ytllaajkpobpeiaa