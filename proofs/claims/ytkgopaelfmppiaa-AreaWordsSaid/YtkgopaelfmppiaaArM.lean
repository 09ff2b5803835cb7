/- AreaWords: the walk. -/
import Derived.Lib.SmallJoins
import Derived.Deep.Slices
import Derived.Test.YtkgopaelfmppiaaArL
namespace Go.Proofs.Ytkgopaelfmppiaa
open Go.RowKit
set_option linter.unusedSimpArgs false
set_option linter.unusedVariables false
theorem SlotAt.below {w w' : World} {g : Nat} {i j b : Int} (h : SlotAt w g i j b) (hb : Below w.heap.size w w') : SlotAt w' g i j b := (hb.block _ (Array.getElem?_eq_some_iff.1 h).1).trans h
theorem word_ok {i j b : Int} (h : slOk i j b = true) (w : World) : Calls Try.prog 14 #[.agg #[.int .i64 i, .int .i64 j, .int .i64 b]] w fun e w' => e = .returned (.tuple #[.int .i64 (i * 65536 + j * 256 + b), .int .i64 0]) ∧ Below w.heap.size w w' := by
  have := word_any i j b w
  unfold WordP slN slE at this
  rw [if_pos h, if_pos h] at this
  exact this
theorem rword_ok {i j b : Int} (h : slOk i j b = true) (w : World) : Calls Try.prog 15 #[.agg #[.int .i64 i, .int .i64 j, .int .i64 b]] w fun e w' => e = .returned (.tuple #[.int .i64 (i * 65536 + j * 256 + b), .int .i64 0]) ∧ Below w.heap.size w w' := by
  have := rword_any i j b w
  unfold WordP slN slE at this
  rw [if_pos h, if_pos h] at this
  exact this
theorem word_not {i j b : Int} (h : slOk i j b = false) (w : World) : Calls Try.prog 14 #[.agg #[.int .i64 i, .int .i64 j, .int .i64 b]] w fun e w' => e = .returned (.tuple #[.int .i64 0, .int .i64 2]) ∧ Below w.heap.size w w' := by
  have := word_any i j b w
  unfold WordP slN slE at this
  rw [h] at this
  exact this
theorem rword_not {i j b : Int} (h : slOk i j b = false) (w : World) : Calls Try.prog 15 #[.agg #[.int .i64 i, .int .i64 j, .int .i64 b]] w fun e w' => e = .returned (.tuple #[.int .i64 0, .int .i64 2]) ∧ Below w.heap.size w w' := by
  have := rword_any i j b w
  unfold WordP slN slE at this
  rw [h] at this
  exact this
theorem slot_of {i j b : Int} (h : slOk i j b = true) (w : World) : Calls Try.prog 16 #[.int .i64 (i * 65536 + j * 256 + b)] w (SlotP w i j b 0) := by
  have h1 := of_decide_eq_true h
  have h2 := slot_yes (i * 65536 + j * 256 + b) w (by omega) (by omega)
  rw [show (i * 65536 + j * 256 + b) / 65536 = i by omega, show (i * 65536 + j * 256 + b) / 256 % 256 = j by omega, show (i * 65536 + j * 256 + b) % 256 = b by omega] at h2
  exact h2
theorem word_back {n : Int} (h0 : ¬ n < 0) (h : ¬ 4294967295 < n) (w : World) : Calls Try.prog 14 #[.agg #[.int .i64 (n / 65536), .int .i64 (n / 256 % 256), .int .i64 (n % 256)]] w fun e w' => e = .returned (.tuple #[.int .i64 n, .int .i64 0]) ∧ Below w.heap.size w w' := by
  have h1 := word_ok (i := n / 65536) (j := n / 256 % 256) (b := n % 256) (slOk_yes ⟨⟨by omega, by omega⟩, ⟨by omega, by omega⟩, by omega, by omega⟩) w
  rw [show n / 65536 * 65536 + n / 256 % 256 * 256 + n % 256 = n by omega] at h1
  exact h1
/-- What the second half asks of a number's slot. -/
def NumW (n a1 a2 a3 : Int) : Prop := (∀ w, Calls Try.prog 16 #[.int .i64 n] w (SlotP w a1 a2 a3 0)) ∧ (∀ w, Calls Try.prog 17 #[.int .i64 n] w fun e w' => e = .returned (.agg #[.int .i64 a1, .int .i64 a2, .int .i64 a3]) ∧ Below w.heap.size w w') ∧
  (∀ w, Calls Try.prog 14 #[.agg #[.int .i64 a1, .int .i64 a2, .int .i64 a3]] w fun e w' => e = .returned (.tuple #[.int .i64 n, .int .i64 0]) ∧ Below w.heap.size w w')
theorem numW {n : Int} (h0 : ¬ n < 0) (h : ¬ 4294967295 < n) : ∃ a1 a2 a3, NumW n a1 a2 a3 := ⟨_, _, _, fun w => slot_yes n w h0 h, fun w => rslot_any n w h0 h, fun w => word_back h0 h w⟩
set_option maxRecDepth 100000 in
set_option maxHeartbeats 4000000 in
theorem words_ylo (w : World) (i j b n : Int) (hok : slOk i j b = true) (hn : n < 0) : Calls Try.prog 4 #[.agg #[.int .i64 i, .int .i64 j, .int .i64 b], .int .i64 n] w fun e w' => e = .returned (.bool true) ∧ Below w.heap.size w w' := by
  have hb0 : Below w.heap.size w (w.alloc (.cells #[.int .i64 i, .int .i64 j, .int .i64 b] 46)) := (Below.refl _ _).alloc (Nat.le_refl _) _
  have hk0 : SlotAt (w.alloc (.cells #[.int .i64 i, .int .i64 j, .int .i64 b] 46)) w.heap.size i j b := heap_alloc_new w _
  have HB0 := Lib.hid hb0
  have HS0 := Lib.hid hk0
  obtain ⟨c0, c1, c2⟩ := hk0.cells
  have HOK := Lib.hid hok
  clear hok
  clear hb0 hk0
  go_enter Try.func4, Try.ntmps4
  go_wp2_with fail
  generalize (w.alloc (.cells #[.int .i64 i, .int .i64 j, .int .i64 b] 46)) = w0 at *
  refine (word_ok HOK.out _).mono ?_
  rintro e w1 ⟨rfl, hb1⟩
  have HB1 := Lib.hid (kF hb1 HB0.out)
  have HS1 := Lib.hid (HS0.out.below hb1)
  clear hb1 c0 c1 c2 HB0 HS0
  obtain ⟨c0, c1, c2⟩ := HS1.out.cells
  go_wp2_with fail
  refine (rword_ok HOK.out _).mono ?_
  rintro e w2 ⟨rfl, hb2⟩
  have HB2 := Lib.hid (kF hb2 HB1.out)
  have HS2 := Lib.hid (HS1.out.below hb2)
  clear hb2 c0 c1 c2 HB1 HS1
  go_wp2_with fail
  refine (slot_of HOK.out _).mono ?_
  rintro e w3 ⟨rfl, hb3⟩
  have HB3 := Lib.hid (kF hb3 HB2.out)
  have HS3 := Lib.hid (HS2.out.below hb3)
  clear hb3 HB2 HS2
  obtain ⟨c0, c1, c2⟩ := HS3.out.cells
  have hlt := (Array.getElem?_eq_some_iff.1 HS3.out).1
  have hba : Below w3.heap.size w3 (w3.alloc (.cells #[.int .i64 i, .int .i64 j, .int .i64 b] 46)) := (Below.refl _ _).alloc (Nat.le_refl _) _
  have HBa := Lib.hid (kF hba HB3.out)
  have HSa := Lib.hid (HS3.out.below hba)
  obtain ⟨d0, d1, d2⟩ := HSa.out.cells
  have HB2 := HBa
  clear hba
  go_wp2_with fail
  refine (slot_no1 n _ hn).mono ?_
  rintro e w4 ⟨rfl, hb4⟩
  have HB4 := Lib.hid (kF hb4 HB2.out)
  have HB5 : Hid (Below w.heap.size w (w4.alloc (.cells #[.int .i64 0, .int .i64 0, .int .i64 0] 46))) := Lib.hid (HB4.out.alloc HB4.out.size _)
  have HZ5 : Hid (SlotAt (w4.alloc (.cells #[.int .i64 0, .int .i64 0, .int .i64 0] 46)) w4.heap.size 0 0 0) := Lib.hid (heap_alloc_new w4 _)
  clear hb4
  go_wp2_with fail
  refine (live15_any _).mono ?_
  rintro e w6 ⟨rfl, hb6⟩
  have HB6 := Lib.hid (kF hb6 HB5.out)
  obtain ⟨z0, z1, z2⟩ := (HZ5.out.below hb6).cells
  clear hb6
  go_wp2_with fail
  go_ret
  exact ⟨rfl, HB6.out⟩
set_option maxRecDepth 100000 in
set_option maxHeartbeats 4000000 in
theorem words_yhi (w : World) (i j b n : Int) (hok : slOk i j b = true) (h0 : ¬ n < 0) (hn : 4294967295 < n) : Calls Try.prog 4 #[.agg #[.int .i64 i, .int .i64 j, .int .i64 b], .int .i64 n] w fun e w' => e = .returned (.bool true) ∧ Below w.heap.size w w' := by
  have hb0 : Below w.heap.size w (w.alloc (.cells #[.int .i64 i, .int .i64 j, .int .i64 b] 46)) := (Below.refl _ _).alloc (Nat.le_refl _) _
  have hk0 : SlotAt (w.alloc (.cells #[.int .i64 i, .int .i64 j, .int .i64 b] 46)) w.heap.size i j b := heap_alloc_new w _
  have HB0 := Lib.hid hb0
  have HS0 := Lib.hid hk0
  obtain ⟨c0, c1, c2⟩ := hk0.cells
  have HOK := Lib.hid hok
  clear hok
  clear hb0 hk0
  go_enter Try.func4, Try.ntmps4
  go_wp2_with fail
  generalize (w.alloc (.cells #[.int .i64 i, .int .i64 j, .int .i64 b] 46)) = w0 at *
  refine (word_ok HOK.out _).mono ?_
  rintro e w1 ⟨rfl, hb1⟩
  have HB1 := Lib.hid (kF hb1 HB0.out)
  have HS1 := Lib.hid (HS0.out.below hb1)
  clear hb1 c0 c1 c2 HB0 HS0
  obtain ⟨c0, c1, c2⟩ := HS1.out.cells
  go_wp2_with fail
  refine (rword_ok HOK.out _).mono ?_
  rintro e w2 ⟨rfl, hb2⟩
  have HB2 := Lib.hid (kF hb2 HB1.out)
  have HS2 := Lib.hid (HS1.out.below hb2)
  clear hb2 c0 c1 c2 HB1 HS1
  go_wp2_with fail
  refine (slot_of HOK.out _).mono ?_
  rintro e w3 ⟨rfl, hb3⟩
  have HB3 := Lib.hid (kF hb3 HB2.out)
  have HS3 := Lib.hid (HS2.out.below hb3)
  clear hb3 HB2 HS2
  obtain ⟨c0, c1, c2⟩ := HS3.out.cells
  have hlt := (Array.getElem?_eq_some_iff.1 HS3.out).1
  have hba : Below w3.heap.size w3 (w3.alloc (.cells #[.int .i64 i, .int .i64 j, .int .i64 b] 46)) := (Below.refl _ _).alloc (Nat.le_refl _) _
  have HBa := Lib.hid (kF hba HB3.out)
  have HSa := Lib.hid (HS3.out.below hba)
  obtain ⟨d0, d1, d2⟩ := HSa.out.cells
  have HB2 := HBa
  clear hba
  go_wp2_with fail
  refine (slot_no2 n _ (Int.not_lt.2 h0) hn).mono ?_
  rintro e w4 ⟨rfl, hb4⟩
  have HB4 := Lib.hid (kF hb4 HB2.out)
  have HB5 : Hid (Below w.heap.size w (w4.alloc (.cells #[.int .i64 0, .int .i64 0, .int .i64 0] 46))) := Lib.hid (HB4.out.alloc HB4.out.size _)
  have HZ5 : Hid (SlotAt (w4.alloc (.cells #[.int .i64 0, .int .i64 0, .int .i64 0] 46)) w4.heap.size 0 0 0) := Lib.hid (heap_alloc_new w4 _)
  clear hb4
  go_wp2_with fail
  refine (live15_any _).mono ?_
  rintro e w6 ⟨rfl, hb6⟩
  have HB6 := Lib.hid (kF hb6 HB5.out)
  obtain ⟨z0, z1, z2⟩ := (HZ5.out.below hb6).cells
  clear hb6
  go_wp2_with fail
  go_ret
  exact ⟨rfl, HB6.out⟩
set_option maxRecDepth 100000 in
set_option maxHeartbeats 4000000 in
theorem words_yin (w : World) (i j b n : Int) (hok : slOk i j b = true) (h0 : ¬ n < 0) (hn : ¬ 4294967295 < n) : Calls Try.prog 4 #[.agg #[.int .i64 i, .int .i64 j, .int .i64 b], .int .i64 n] w fun e w' => e = .returned (.bool true) ∧ Below w.heap.size w w' := by
  have hb0 : Below w.heap.size w (w.alloc (.cells #[.int .i64 i, .int .i64 j, .int .i64 b] 46)) := (Below.refl _ _).alloc (Nat.le_refl _) _
  have hk0 : SlotAt (w.alloc (.cells #[.int .i64 i, .int .i64 j, .int .i64 b] 46)) w.heap.size i j b := heap_alloc_new w _
  have HB0 := Lib.hid hb0
  have HS0 := Lib.hid hk0
  obtain ⟨c0, c1, c2⟩ := hk0.cells
  have HOK := Lib.hid hok
  clear hok
  obtain ⟨a1, a2, a3, hnw⟩ := numW h0 hn
  have HNW := Lib.hid hnw
  clear hnw
  clear hb0 hk0
  go_enter Try.func4, Try.ntmps4
  go_wp2_with fail
  generalize (w.alloc (.cells #[.int .i64 i, .int .i64 j, .int .i64 b] 46)) = w0 at *
  refine (word_ok HOK.out _).mono ?_
  rintro e w1 ⟨rfl, hb1⟩
  have HB1 := Lib.hid (kF hb1 HB0.out)
  have HS1 := Lib.hid (HS0.out.below hb1)
  clear hb1 c0 c1 c2 HB0 HS0
  obtain ⟨c0, c1, c2⟩ := HS1.out.cells
  go_wp2_with fail
  refine (rword_ok HOK.out _).mono ?_
  rintro e w2 ⟨rfl, hb2⟩
  have HB2 := Lib.hid (kF hb2 HB1.out)
  have HS2 := Lib.hid (HS1.out.below hb2)
  clear hb2 c0 c1 c2 HB1 HS1
  go_wp2_with fail
  refine (slot_of HOK.out _).mono ?_
  rintro e w3 ⟨rfl, hb3⟩
  have HB3 := Lib.hid (kF hb3 HB2.out)
  have HS3 := Lib.hid (HS2.out.below hb3)
  clear hb3 HB2 HS2
  obtain ⟨c0, c1, c2⟩ := HS3.out.cells
  have hlt := (Array.getElem?_eq_some_iff.1 HS3.out).1
  have hba : Below w3.heap.size w3 (w3.alloc (.cells #[.int .i64 i, .int .i64 j, .int .i64 b] 46)) := (Below.refl _ _).alloc (Nat.le_refl _) _
  have HBa := Lib.hid (kF hba HB3.out)
  have HSa := Lib.hid (HS3.out.below hba)
  obtain ⟨d0, d1, d2⟩ := HSa.out.cells
  have HB2 := HBa
  clear hba
  go_wp2_with fail
  refine (HNW.out.1 _).mono ?_
  rintro e w4 ⟨rfl, hb4⟩
  have HB4 := Lib.hid (kF hb4 HB2.out)
  have HB5 : Hid (Below w.heap.size w (w4.alloc (.cells #[.int .i64 a1, .int .i64 a2, .int .i64 a3] 46))) := Lib.hid (HB4.out.alloc HB4.out.size _)
  have HZ5 : Hid (SlotAt (w4.alloc (.cells #[.int .i64 a1, .int .i64 a2, .int .i64 a3] 46)) w4.heap.size a1 a2 a3) := Lib.hid (heap_alloc_new w4 _)
  clear hb4
  go_wp2_with fail
  generalize (w4.alloc (.cells #[.int .i64 a1, .int .i64 a2, .int .i64 a3] 46)) = w5 at *
  generalize w4.heap.size = gz at *
  refine (HNW.out.2.2 _).mono ?_
  rintro e w6 ⟨rfl, hb6⟩
  have HB6 := Lib.hid (kF hb6 HB5.out)
  have HZ6 := Lib.hid (HZ5.out.below hb6)
  clear hb6 HB5 HZ5
  go_wp2_with fail
  have hS : ∀ x, Below w6.heap.size w6 x → x.cell? ⟨gz, 0, none⟩ = some (.int .i64 a1) ∧ x.cell? ⟨gz, 1, none⟩ = some (.int .i64 a2) ∧ x.cell? ⟨gz, 2, none⟩ = some (.int .i64 a3) := fun x hx => (HZ6.out.below hx).cells
  have HS := Lib.hid hS
  clear hS
  refine wp_region_last (fun x => x.cell? ⟨gz, 0, none⟩ = some (.int .i64 a1) ∧ x.cell? ⟨gz, 1, none⟩ = some (.int .i64 a2) ∧ x.cell? ⟨gz, 2, none⟩ = some (.int .i64 a3)) 20 (by kernel_rfl) (HS.out _ (kD _)) (fun hHeld => ?_)
  have HBx0 := Lib.hid (kD w6)
  generalize w6.drew = x0 at *
  refine wpAnyL_ready (rs := [0]) (by kernel_rfl) (by simp) ?_
  refine (AllReadyL.cons rfl (fun K hK => ?_) AllReadyL.nil)
  go_simp
  go_wp2_with fail
  refine (live15_any _).mono ?_
  rintro e x1 ⟨rfl, hb7⟩
  have HBx1 := Lib.hid (kF hb7 HBx0.out)
  clear hb7
  refine hK.out _ _ ?_ (fun hHeld => ?_)
  · (try dsimp only); exact HS.out _ HBx1.out
  clear hK K
  refine wpAnyL_take (i := 1) (v := ?_) rfl (by kernel_rfl) (by kernel_rfl) (by kernel_rfl) (by kernel_rfl) (by kernel_rfl) (fun _ _ _ h => h) (Or.inl ⟨by rfl, ?_⟩) (by assumption) ?_
  rotate_left
  · intro wq hSw; (try dsimp only at hSw); first | (go_simp; done) | (go_simp; with_reducible rfl) | with_reducible rfl
  go_simp
  refine wpAnyL_take (i := 2) (v := ?_) rfl (by kernel_rfl) (by kernel_rfl) (by kernel_rfl) (by kernel_rfl) (by kernel_rfl) (fun _ _ _ h => h) (Or.inl ⟨by rfl, ?_⟩) (by assumption) ?_
  rotate_left
  · intro wq hSw; (try dsimp only at hSw); first | (go_simp; done) | (go_simp; with_reducible rfl) | with_reducible rfl
  go_simp
  refine wpAnyL_take (i := 3) (v := ?_) rfl (by kernel_rfl) (by kernel_rfl) (by kernel_rfl) (by kernel_rfl) (by kernel_rfl) (fun _ _ _ h => h) (Or.inl ⟨by rfl, ?_⟩) (by assumption) ?_
  rotate_left
  · intro wq hSw; (try dsimp only at hSw); first | (go_simp; done) | (go_simp; with_reducible rfl) | with_reducible rfl
  go_simp
  refine wpAnyL_take (i := 4) (v := ?_) rfl (by kernel_rfl) (by kernel_rfl) (by kernel_rfl) (by kernel_rfl) (by kernel_rfl) (fun _ _ _ h => h) (Or.inl ⟨by rfl, ?_⟩) (by assumption) ?_
  rotate_left
  · intro wq hSw; (try dsimp only at hSw); first | (go_simp; done) | (go_simp; with_reducible rfl) | with_reducible rfl
  go_simp
  refine wpAnyL_take (i := 5) (v := ?_) rfl (by kernel_rfl) (by kernel_rfl) (by kernel_rfl) (by kernel_rfl) (by kernel_rfl) (fun _ _ _ h => h) (Or.inl ⟨by rfl, ?_⟩) (by assumption) ?_
  rotate_left
  · intro wq hSw; (try dsimp only at hSw); first | (go_simp; done) | (go_simp; with_reducible rfl) | with_reducible rfl
  go_simp
  refine wpAnyL_take (i := 6) (v := ?_) rfl (by kernel_rfl) (by kernel_rfl) (by kernel_rfl) (by kernel_rfl) (by kernel_rfl) (fun _ _ _ h => h) (Or.inl ⟨by rfl, ?_⟩) (by assumption) ?_
  rotate_left
  · intro wq hSw; (try dsimp only at hSw); first | (go_simp; done) | (go_simp; with_reducible rfl) | with_reducible rfl
  go_simp
  refine wpAnyL_take (i := 7) (v := ?_) rfl (by kernel_rfl) (by kernel_rfl) (by kernel_rfl) (by kernel_rfl) (by kernel_rfl) (fun _ _ _ h => h) (Or.inl ⟨by rfl, ?_⟩) (by assumption) ?_
  rotate_left
  · intro wq hSw; (try dsimp only at hSw); first | (go_simp; done) | (go_simp; with_reducible rfl) | with_reducible rfl
  go_simp
  refine wpAnyL_ready (rs := [8]) (by kernel_rfl) (by simp) ?_
  refine (AllReadyL.cons rfl (fun K hK => ?_) AllReadyL.nil)
  go_simp
  go_wp2_with fail
  refine (HNW.out.2.1 _).mono ?_
  rintro e x2 ⟨rfl, hb8⟩
  have HBx2 : Hid (Below w6.heap.size w6 x2) := Lib.hid (kF hb8 HBx1.out)
  clear hb8
  refine hK.out _ _ ?_ (fun hHeld => ?_)
  · (try dsimp only); exact HS.out _ HBx2.out
  clear hK K
  refine wpAnyL_take (i := 9) (v := ?_) rfl (by kernel_rfl) (by kernel_rfl) (by kernel_rfl) (by kernel_rfl) (by kernel_rfl) (fun _ _ _ h => h) (Or.inl ⟨by rfl, ?_⟩) (by assumption) ?_
  rotate_left
  · intro wq hSw; (try dsimp only at hSw); first | (go_simp; done) | (go_simp; with_reducible rfl) | with_reducible rfl
  go_simp
  refine wpAnyL_take (i := 10) (v := ?_) rfl (by kernel_rfl) (by kernel_rfl) (by kernel_rfl) (by kernel_rfl) (by kernel_rfl) (fun _ _ _ h => h) (Or.inl ⟨by rfl, ?_⟩) (by assumption) ?_
  rotate_left
  · intro wq hSw; (try dsimp only at hSw); first | (go_simp; done) | (go_simp; with_reducible rfl) | with_reducible rfl
  go_simp
  refine wpAnyL_take (i := 11) (v := ?_) rfl (by kernel_rfl) (by kernel_rfl) (by kernel_rfl) (by kernel_rfl) (by kernel_rfl) (fun _ _ _ h => h) (Or.inl ⟨by rfl, ?_⟩) (by assumption) ?_
  rotate_left
  · intro wq hSw; (try dsimp only at hSw); first | (go_simp; done) | (go_simp; with_reducible rfl) | with_reducible rfl
  go_simp
  refine wpAnyL_take (i := 12) (v := ?_) rfl (by kernel_rfl) (by kernel_rfl) (by kernel_rfl) (by kernel_rfl) (by kernel_rfl) (fun _ _ _ h => h) (Or.inl ⟨by rfl, ?_⟩) (by assumption) ?_
  rotate_left
  · intro wq hSw; (try dsimp only at hSw); first | (go_simp; done) | (go_simp; with_reducible rfl) | with_reducible rfl
  go_simp
  refine wpAnyL_take (i := 13) (v := ?_) rfl (by kernel_rfl) (by kernel_rfl) (by kernel_rfl) (by kernel_rfl) (by kernel_rfl) (fun _ _ _ h => h) (Or.inl ⟨by rfl, ?_⟩) (by assumption) ?_
  rotate_left
  · intro wq hSw; (try dsimp only at hSw); first | (go_simp; done) | (go_simp; with_reducible rfl) | with_reducible rfl
  go_simp
  refine wpAnyL_take (i := 14) (v := ?_) rfl (by kernel_rfl) (by kernel_rfl) (by kernel_rfl) (by kernel_rfl) (by kernel_rfl) (fun _ _ _ h => h) (Or.inl ⟨by rfl, ?_⟩) (by assumption) ?_
  rotate_left
  · intro wq hSw; (try dsimp only at hSw); first | (go_simp; done) | (go_simp; with_reducible rfl) | with_reducible rfl
  go_simp
  refine wpAnyL_take (i := 15) (v := ?_) rfl (by kernel_rfl) (by kernel_rfl) (by kernel_rfl) (by kernel_rfl) (by kernel_rfl) (fun _ _ _ h => h) (Or.inl ⟨by rfl, ?_⟩) (by assumption) ?_
  rotate_left
  · intro wq hSw; (try dsimp only at hSw); first | (go_simp; done) | (go_simp; with_reducible rfl) | with_reducible rfl
  go_simp
  refine wpAnyL_take (i := 16) (v := ?_) rfl (by kernel_rfl) (by kernel_rfl) (by kernel_rfl) (by kernel_rfl) (by kernel_rfl) (fun _ _ _ h => h) (Or.inl ⟨by rfl, ?_⟩) (by assumption) ?_
  rotate_left
  · intro wq hSw; (try dsimp only at hSw); first | (go_simp; done) | (go_simp; with_reducible rfl) | with_reducible rfl
  go_simp
  refine wpAnyL_take (i := 17) (v := ?_) rfl (by kernel_rfl) (by kernel_rfl) (by kernel_rfl) (by kernel_rfl) (by kernel_rfl) (fun _ _ _ h => h) (Or.inl ⟨by rfl, ?_⟩) (by assumption) ?_
  rotate_left
  · intro wq hSw; (try dsimp only at hSw); first | (go_simp; done) | (go_simp; with_reducible rfl) | with_reducible rfl
  go_simp
  refine wpAnyL_take (i := 18) (v := ?_) rfl (by kernel_rfl) (by kernel_rfl) (by kernel_rfl) (by kernel_rfl) (by kernel_rfl) (fun _ _ _ h => h) (Or.inl ⟨by rfl, ?_⟩) (by assumption) ?_
  rotate_left
  · intro wq hSw; (try dsimp only at hSw); first | (go_simp; done) | (go_simp; with_reducible rfl) | with_reducible rfl
  go_simp
  refine wpAnyL_take (i := 19) (v := ?_) rfl (by kernel_rfl) (by kernel_rfl) (by kernel_rfl) (by kernel_rfl) (by kernel_rfl) (fun _ _ _ h => h) (Or.inl ⟨by rfl, ?_⟩) (by assumption) ?_
  rotate_left
  · intro wq hSw; (try dsimp only at hSw); first | (go_simp; done) | (go_simp; with_reducible rfl) | with_reducible rfl
  go_simp
  refine wpAnyL_ready (rs := [20]) (by kernel_rfl) (by simp) ?_
  refine AllReadyL.last rfl (fun K hK => ?_)
  go_simp
  refine hK.out _ _ ?_
  clear hK K
  refine wpAnyL_done (by kernel_rfl) ?_ _
  clear hHeld
  go_wp2_with fail
  go_ret
  exact ⟨rfl, kF HBx2.out HB6.out⟩
set_option maxRecDepth 100000 in
set_option maxHeartbeats 4000000 in
theorem words_nlo (w : World) (i j b n : Int) (hok : slOk i j b = false) (hn : n < 0) : Calls Try.prog 4 #[.agg #[.int .i64 i, .int .i64 j, .int .i64 b], .int .i64 n] w fun e w' => e = .returned (.bool true) ∧ Below w.heap.size w w' := by
  have hb0 : Below w.heap.size w (w.alloc (.cells #[.int .i64 i, .int .i64 j, .int .i64 b] 46)) := (Below.refl _ _).alloc (Nat.le_refl _) _
  have hk0 : SlotAt (w.alloc (.cells #[.int .i64 i, .int .i64 j, .int .i64 b] 46)) w.heap.size i j b := heap_alloc_new w _
  have HB0 := Lib.hid hb0
  have HS0 := Lib.hid hk0
  obtain ⟨c0, c1, c2⟩ := hk0.cells
  have HOK := Lib.hid hok
  clear hok
  clear hb0 hk0
  go_enter Try.func4, Try.ntmps4
  go_wp2_with fail
  generalize (w.alloc (.cells #[.int .i64 i, .int .i64 j, .int .i64 b] 46)) = w0 at *
  refine (word_not HOK.out _).mono ?_
  rintro e w1 ⟨rfl, hb1⟩
  have HB1 := Lib.hid (kF hb1 HB0.out)
  have HS1 := Lib.hid (HS0.out.below hb1)
  clear hb1 c0 c1 c2 HB0 HS0
  obtain ⟨c0, c1, c2⟩ := HS1.out.cells
  go_wp2_with fail
  refine (rword_not HOK.out _).mono ?_
  rintro e w2 ⟨rfl, hb2⟩
  have HB2 := Lib.hid (kF hb2 HB1.out)
  have HS2 := Lib.hid (HS1.out.below hb2)
  clear hb2 c0 c1 c2 HB1 HS1
  have hlt := (Array.getElem?_eq_some_iff.1 HS2.out).1
  go_wp2_with fail
  refine (slot_no1 n _ hn).mono ?_
  rintro e w4 ⟨rfl, hb4⟩
  have HB4 := Lib.hid (kF hb4 HB2.out)
  have HB5 : Hid (Below w.heap.size w (w4.alloc (.cells #[.int .i64 0, .int .i64 0, .int .i64 0] 46))) := Lib.hid (HB4.out.alloc HB4.out.size _)
  have HZ5 : Hid (SlotAt (w4.alloc (.cells #[.int .i64 0, .int .i64 0, .int .i64 0] 46)) w4.heap.size 0 0 0) := Lib.hid (heap_alloc_new w4 _)
  clear hb4
  go_wp2_with fail
  refine (live15_any _).mono ?_
  rintro e w6 ⟨rfl, hb6⟩
  have HB6 := Lib.hid (kF hb6 HB5.out)
  obtain ⟨z0, z1, z2⟩ := (HZ5.out.below hb6).cells
  clear hb6
  go_wp2_with fail
  go_ret
  exact ⟨rfl, HB6.out⟩
set_option maxRecDepth 100000 in
set_option maxHeartbeats 4000000 in
theorem words_nhi (w : World) (i j b n : Int) (hok : slOk i j b = false) (h0 : ¬ n < 0) (hn : 4294967295 < n) : Calls Try.prog 4 #[.agg #[.int .i64 i, .int .i64 j, .int .i64 b], .int .i64 n] w fun e w' => e = .returned (.bool true) ∧ Below w.heap.size w w' := by
  have hb0 : Below w.heap.size w (w.alloc (.cells #[.int .i64 i, .int .i64 j, .int .i64 b] 46)) := (Below.refl _ _).alloc (Nat.le_refl _) _
  have hk0 : SlotAt (w.alloc (.cells #[.int .i64 i, .int .i64 j, .int .i64 b] 46)) w.heap.size i j b := heap_alloc_new w _
  have HB0 := Lib.hid hb0
  have HS0 := Lib.hid hk0
  obtain ⟨c0, c1, c2⟩ := hk0.cells
  have HOK := Lib.hid hok
  clear hok
  clear hb0 hk0
  go_enter Try.func4, Try.ntmps4
  go_wp2_with fail
  generalize (w.alloc (.cells #[.int .i64 i, .int .i64 j, .int .i64 b] 46)) = w0 at *
  refine (word_not HOK.out _).mono ?_
  rintro e w1 ⟨rfl, hb1⟩
  have HB1 := Lib.hid (kF hb1 HB0.out)
  have HS1 := Lib.hid (HS0.out.below hb1)
  clear hb1 c0 c1 c2 HB0 HS0
  obtain ⟨c0, c1, c2⟩ := HS1.out.cells
  go_wp2_with fail
  refine (rword_not HOK.out _).mono ?_
  rintro e w2 ⟨rfl, hb2⟩
  have HB2 := Lib.hid (kF hb2 HB1.out)
  have HS2 := Lib.hid (HS1.out.below hb2)
  clear hb2 c0 c1 c2 HB1 HS1
  have hlt := (Array.getElem?_eq_some_iff.1 HS2.out).1
  go_wp2_with fail
  refine (slot_no2 n _ (Int.not_lt.2 h0) hn).mono ?_
  rintro e w4 ⟨rfl, hb4⟩
  have HB4 := Lib.hid (kF hb4 HB2.out)
  have HB5 : Hid (Below w.heap.size w (w4.alloc (.cells #[.int .i64 0, .int .i64 0, .int .i64 0] 46))) := Lib.hid (HB4.out.alloc HB4.out.size _)
  have HZ5 : Hid (SlotAt (w4.alloc (.cells #[.int .i64 0, .int .i64 0, .int .i64 0] 46)) w4.heap.size 0 0 0) := Lib.hid (heap_alloc_new w4 _)
  clear hb4
  go_wp2_with fail
  refine (live15_any _).mono ?_
  rintro e w6 ⟨rfl, hb6⟩
  have HB6 := Lib.hid (kF hb6 HB5.out)
  obtain ⟨z0, z1, z2⟩ := (HZ5.out.below hb6).cells
  clear hb6
  go_wp2_with fail
  go_ret
  exact ⟨rfl, HB6.out⟩
set_option maxRecDepth 100000 in
set_option maxHeartbeats 4000000 in
theorem words_nin (w : World) (i j b n : Int) (hok : slOk i j b = false) (h0 : ¬ n < 0) (hn : ¬ 4294967295 < n) : Calls Try.prog 4 #[.agg #[.int .i64 i, .int .i64 j, .int .i64 b], .int .i64 n] w fun e w' => e = .returned (.bool true) ∧ Below w.heap.size w w' := by
  have hb0 : Below w.heap.size w (w.alloc (.cells #[.int .i64 i, .int .i64 j, .int .i64 b] 46)) := (Below.refl _ _).alloc (Nat.le_refl _) _
  have hk0 : SlotAt (w.alloc (.cells #[.int .i64 i, .int .i64 j, .int .i64 b] 46)) w.heap.size i j b := heap_alloc_new w _
  have HB0 := Lib.hid hb0
  have HS0 := Lib.hid hk0
  obtain ⟨c0, c1, c2⟩ := hk0.cells
  have HOK := Lib.hid hok
  clear hok
  obtain ⟨a1, a2, a3, hnw⟩ := numW h0 hn
  have HNW := Lib.hid hnw
  clear hnw
  clear hb0 hk0
  go_enter Try.func4, Try.ntmps4
  go_wp2_with fail
  generalize (w.alloc (.cells #[.int .i64 i, .int .i64 j, .int .i64 b] 46)) = w0 at *
  refine (word_not HOK.out _).mono ?_
  rintro e w1 ⟨rfl, hb1⟩
  have HB1 := Lib.hid (kF hb1 HB0.out)
  have HS1 := Lib.hid (HS0.out.below hb1)
  clear hb1 c0 c1 c2 HB0 HS0
  obtain ⟨c0, c1, c2⟩ := HS1.out.cells
  go_wp2_with fail
  refine (rword_not HOK.out _).mono ?_
  rintro e w2 ⟨rfl, hb2⟩
  have HB2 := Lib.hid (kF hb2 HB1.out)
  have HS2 := Lib.hid (HS1.out.below hb2)
  clear hb2 c0 c1 c2 HB1 HS1
  have hlt := (Array.getElem?_eq_some_iff.1 HS2.out).1
  go_wp2_with fail
  refine (HNW.out.1 _).mono ?_
  rintro e w4 ⟨rfl, hb4⟩
  have HB4 := Lib.hid (kF hb4 HB2.out)
  have HB5 : Hid (Below w.heap.size w (w4.alloc (.cells #[.int .i64 a1, .int .i64 a2, .int .i64 a3] 46))) := Lib.hid (HB4.out.alloc HB4.out.size _)
  have HZ5 : Hid (SlotAt (w4.alloc (.cells #[.int .i64 a1, .int .i64 a2, .int .i64 a3] 46)) w4.heap.size a1 a2 a3) := Lib.hid (heap_alloc_new w4 _)
  clear hb4
  go_wp2_with fail
  generalize (w4.alloc (.cells #[.int .i64 a1, .int .i64 a2, .int .i64 a3] 46)) = w5 at *
  generalize w4.heap.size = gz at *
  refine (HNW.out.2.2 _).mono ?_
  rintro e w6 ⟨rfl, hb6⟩
  have HB6 := Lib.hid (kF hb6 HB5.out)
  have HZ6 := Lib.hid (HZ5.out.below hb6)
  clear hb6 HB5 HZ5
  go_wp2_with fail
  have hS : ∀ x, Below w6.heap.size w6 x → x.cell? ⟨gz, 0, none⟩ = some (.int .i64 a1) ∧ x.cell? ⟨gz, 1, none⟩ = some (.int .i64 a2) ∧ x.cell? ⟨gz, 2, none⟩ = some (.int .i64 a3) := fun x hx => (HZ6.out.below hx).cells
  have HS := Lib.hid hS
  clear hS
  refine wp_region_last (fun x => x.cell? ⟨gz, 0, none⟩ = some (.int .i64 a1) ∧ x.cell? ⟨gz, 1, none⟩ = some (.int .i64 a2) ∧ x.cell? ⟨gz, 2, none⟩ = some (.int .i64 a3)) 20 (by kernel_rfl) (HS.out _ (kD _)) (fun hHeld => ?_)
  have HBx0 := Lib.hid (kD w6)
  generalize w6.drew = x0 at *
  refine wpAnyL_ready (rs := [0]) (by kernel_rfl) (by simp) ?_
  refine (AllReadyL.cons rfl (fun K hK => ?_) AllReadyL.nil)
  go_simp
  go_wp2_with fail
  refine (live15_any _).mono ?_
  rintro e x1 ⟨rfl, hb7⟩
  have HBx1 := Lib.hid (kF hb7 HBx0.out)
  clear hb7
  refine hK.out _ _ ?_ (fun hHeld => ?_)
  · (try dsimp only); exact HS.out _ HBx1.out
  clear hK K
  refine wpAnyL_take (i := 1) (v := ?_) rfl (by kernel_rfl) (by kernel_rfl) (by kernel_rfl) (by kernel_rfl) (by kernel_rfl) (fun _ _ _ h => h) (Or.inl ⟨by rfl, ?_⟩) (by assumption) ?_
  rotate_left
  · intro wq hSw; (try dsimp only at hSw); first | (go_simp; done) | (go_simp; with_reducible rfl) | with_reducible rfl
  go_simp
  refine wpAnyL_take (i := 2) (v := ?_) rfl (by kernel_rfl) (by kernel_rfl) (by kernel_rfl) (by kernel_rfl) (by kernel_rfl) (fun _ _ _ h => h) (Or.inl ⟨by rfl, ?_⟩) (by assumption) ?_
  rotate_left
  · intro wq hSw; (try dsimp only at hSw); first | (go_simp; done) | (go_simp; with_reducible rfl) | with_reducible rfl
  go_simp
  refine wpAnyL_take (i := 3) (v := ?_) rfl (by kernel_rfl) (by kernel_rfl) (by kernel_rfl) (by kernel_rfl) (by kernel_rfl) (fun _ _ _ h => h) (Or.inl ⟨by rfl, ?_⟩) (by assumption) ?_
  rotate_left
  · intro wq hSw; (try dsimp only at hSw); first | (go_simp; done) | (go_simp; with_reducible rfl) | with_reducible rfl
  go_simp
  refine wpAnyL_take (i := 4) (v := ?_) rfl (by kernel_rfl) (by kernel_rfl) (by kernel_rfl) (by kernel_rfl) (by kernel_rfl) (fun _ _ _ h => h) (Or.inl ⟨by rfl, ?_⟩) (by assumption) ?_
  rotate_left
  · intro wq hSw; (try dsimp only at hSw); first | (go_simp; done) | (go_simp; with_reducible rfl) | with_reducible rfl
  go_simp
  refine wpAnyL_take (i := 5) (v := ?_) rfl (by kernel_rfl) (by kernel_rfl) (by kernel_rfl) (by kernel_rfl) (by kernel_rfl) (fun _ _ _ h => h) (Or.inl ⟨by rfl, ?_⟩) (by assumption) ?_
  rotate_left
  · intro wq hSw; (try dsimp only at hSw); first | (go_simp; done) | (go_simp; with_reducible rfl) | with_reducible rfl
  go_simp
  refine wpAnyL_take (i := 6) (v := ?_) rfl (by kernel_rfl) (by kernel_rfl) (by kernel_rfl) (by kernel_rfl) (by kernel_rfl) (fun _ _ _ h => h) (Or.inl ⟨by rfl, ?_⟩) (by assumption) ?_
  rotate_left
  · intro wq hSw; (try dsimp only at hSw); first | (go_simp; done) | (go_simp; with_reducible rfl) | with_reducible rfl
  go_simp
  refine wpAnyL_take (i := 7) (v := ?_) rfl (by kernel_rfl) (by kernel_rfl) (by kernel_rfl) (by kernel_rfl) (by kernel_rfl) (fun _ _ _ h => h) (Or.inl ⟨by rfl, ?_⟩) (by assumption) ?_
  rotate_left
  · intro wq hSw; (try dsimp only at hSw); first | (go_simp; done) | (go_simp; with_reducible rfl) | with_reducible rfl
  go_simp
  refine wpAnyL_ready (rs := [8]) (by kernel_rfl) (by simp) ?_
  refine (AllReadyL.cons rfl (fun K hK => ?_) AllReadyL.nil)
  go_simp
  go_wp2_with fail
  refine (HNW.out.2.1 _).mono ?_
  rintro e x2 ⟨rfl, hb8⟩
  have HBx2 : Hid (Below w6.heap.size w6 x2) := Lib.hid (kF hb8 HBx1.out)
  clear hb8
  refine hK.out _ _ ?_ (fun hHeld => ?_)
  · (try dsimp only); exact HS.out _ HBx2.out
  clear hK K
  refine wpAnyL_take (i := 9) (v := ?_) rfl (by kernel_rfl) (by kernel_rfl) (by kernel_rfl) (by kernel_rfl) (by kernel_rfl) (fun _ _ _ h => h) (Or.inl ⟨by rfl, ?_⟩) (by assumption) ?_
  rotate_left
  · intro wq hSw; (try dsimp only at hSw); first | (go_simp; done) | (go_simp; with_reducible rfl) | with_reducible rfl
  go_simp
  refine wpAnyL_take (i := 10) (v := ?_) rfl (by kernel_rfl) (by kernel_rfl) (by kernel_rfl) (by kernel_rfl) (by kernel_rfl) (fun _ _ _ h => h) (Or.inl ⟨by rfl, ?_⟩) (by assumption) ?_
  rotate_left
  · intro wq hSw; (try dsimp only at hSw); first | (go_simp; done) | (go_simp; with_reducible rfl) | with_reducible rfl
  go_simp
  refine wpAnyL_take (i := 11) (v := ?_) rfl (by kernel_rfl) (by kernel_rfl) (by kernel_rfl) (by kernel_rfl) (by kernel_rfl) (fun _ _ _ h => h) (Or.inl ⟨by rfl, ?_⟩) (by assumption) ?_
  rotate_left
  · intro wq hSw; (try dsimp only at hSw); first | (go_simp; done) | (go_simp; with_reducible rfl) | with_reducible rfl
  go_simp
  refine wpAnyL_take (i := 12) (v := ?_) rfl (by kernel_rfl) (by kernel_rfl) (by kernel_rfl) (by kernel_rfl) (by kernel_rfl) (fun _ _ _ h => h) (Or.inl ⟨by rfl, ?_⟩) (by assumption) ?_
  rotate_left
  · intro wq hSw; (try dsimp only at hSw); first | (go_simp; done) | (go_simp; with_reducible rfl) | with_reducible rfl
  go_simp
  refine wpAnyL_take (i := 13) (v := ?_) rfl (by kernel_rfl) (by kernel_rfl) (by kernel_rfl) (by kernel_rfl) (by kernel_rfl) (fun _ _ _ h => h) (Or.inl ⟨by rfl, ?_⟩) (by assumption) ?_
  rotate_left
  · intro wq hSw; (try dsimp only at hSw); first | (go_simp; done) | (go_simp; with_reducible rfl) | with_reducible rfl
  go_simp
  refine wpAnyL_take (i := 14) (v := ?_) rfl (by kernel_rfl) (by kernel_rfl) (by kernel_rfl) (by kernel_rfl) (by kernel_rfl) (fun _ _ _ h => h) (Or.inl ⟨by rfl, ?_⟩) (by assumption) ?_
  rotate_left
  · intro wq hSw; (try dsimp only at hSw); first | (go_simp; done) | (go_simp; with_reducible rfl) | with_reducible rfl
  go_simp
  refine wpAnyL_take (i := 15) (v := ?_) rfl (by kernel_rfl) (by kernel_rfl) (by kernel_rfl) (by kernel_rfl) (by kernel_rfl) (fun _ _ _ h => h) (Or.inl ⟨by rfl, ?_⟩) (by assumption) ?_
  rotate_left
  · intro wq hSw; (try dsimp only at hSw); first | (go_simp; done) | (go_simp; with_reducible rfl) | with_reducible rfl
  go_simp
  refine wpAnyL_take (i := 16) (v := ?_) rfl (by kernel_rfl) (by kernel_rfl) (by kernel_rfl) (by kernel_rfl) (by kernel_rfl) (fun _ _ _ h => h) (Or.inl ⟨by rfl, ?_⟩) (by assumption) ?_
  rotate_left
  · intro wq hSw; (try dsimp only at hSw); first | (go_simp; done) | (go_simp; with_reducible rfl) | with_reducible rfl
  go_simp
  refine wpAnyL_take (i := 17) (v := ?_) rfl (by kernel_rfl) (by kernel_rfl) (by kernel_rfl) (by kernel_rfl) (by kernel_rfl) (fun _ _ _ h => h) (Or.inl ⟨by rfl, ?_⟩) (by assumption) ?_
  rotate_left
  · intro wq hSw; (try dsimp only at hSw); first | (go_simp; done) | (go_simp; with_reducible rfl) | with_reducible rfl
  go_simp
  refine wpAnyL_take (i := 18) (v := ?_) rfl (by kernel_rfl) (by kernel_rfl) (by kernel_rfl) (by kernel_rfl) (by kernel_rfl) (fun _ _ _ h => h) (Or.inl ⟨by rfl, ?_⟩) (by assumption) ?_
  rotate_left
  · intro wq hSw; (try dsimp only at hSw); first | (go_simp; done) | (go_simp; with_reducible rfl) | with_reducible rfl
  go_simp
  refine wpAnyL_take (i := 19) (v := ?_) rfl (by kernel_rfl) (by kernel_rfl) (by kernel_rfl) (by kernel_rfl) (by kernel_rfl) (fun _ _ _ h => h) (Or.inl ⟨by rfl, ?_⟩) (by assumption) ?_
  rotate_left
  · intro wq hSw; (try dsimp only at hSw); first | (go_simp; done) | (go_simp; with_reducible rfl) | with_reducible rfl
  go_simp
  refine wpAnyL_ready (rs := [20]) (by kernel_rfl) (by simp) ?_
  refine AllReadyL.last rfl (fun K hK => ?_)
  go_simp
  refine hK.out _ _ ?_
  clear hK K
  refine wpAnyL_done (by kernel_rfl) ?_ _
  clear hHeld
  go_wp2_with fail
  go_ret
  exact ⟨rfl, kF HBx2.out HB6.out⟩
theorem words_walk (w : World) (i j b n : Int) : Calls Try.prog 4 #[.agg #[.int .i64 i, .int .i64 j, .int .i64 b], .int .i64 n] w fun e w' => e = .returned (.bool true) ∧ Below w.heap.size w w' := by
  cases hok : slOk i j b with
  | true =>
    by_cases h0 : n < 0
    · exact words_ylo w i j b n hok h0
    · by_cases hn : 4294967295 < n
      · exact words_yhi w i j b n hok h0 hn
      · exact words_yin w i j b n hok h0 hn
  | false =>
    by_cases h0 : n < 0
    · exact words_nlo w i j b n hok h0
    · by_cases hn : 4294967295 < n
      · exact words_nhi w i j b n hok h0 hn
      · exact words_nin w i j b n hok h0 hn
end Go.Proofs.Ytkgopaelfmppiaa
namespace Go.Proofs.Ytkgopaelfmppiaa
open Go.RowKit Go.Joins Go.ChangeShapes Go.WideShapes Go.Deep
set_option linter.unusedSimpArgs false
set_option linter.unusedVariables false
theorem cells_keyS : Try.prog.cellsOf 23 = 2 := by kernel_rfl
theorem cells_intS : Try.prog.cellsOf 3 = 1 := by kernel_rfl
theorem cells_slot : Try.prog.cellsOf 46 = 3 := by kernel_rfl
theorem array3S {α : Type} {cs : Array α} (h : cs.size = 3) : ∃ c0 c1 c2, cs = #[c0, c1, c2] := by
  obtain ⟨l⟩ := cs
  match l, h with
  | [c0, c1, c2], _ => exact ⟨c0, c1, c2, rfl⟩
section
variable {H : Type} {enc : TypeId × Value → H} {w : World} {base : Nat} {spare : Nat → Bool} {held : Bool}
set_option maxRecDepth 100000 in
theorem open_slot {r : Reach} {b0 : Nat} {v : Value} {dd : DataW H} {p : List MemPlace} (hv : Value.okWide Try.prog w r b0 46 v) (h : DataW.Trod enc Try.prog w base spare held 46 v dd p) :
    ∃ i j b : Int, v = .agg #[.int .i64 i, .int .i64 j, .int .i64 b] := by
  obtain ⟨cs, rfl, hsz⟩ := okWide_struct Try.underlying46 hv
  obtain ⟨c0, c1, c2, rfl⟩ := array3S (hsz.trans cells_slot)
  obtain ⟨fuel, hf⟩ := h
  obtain ⟨y0, y1, m, _, _, h0, h1⟩ := trod_struct2 Try.underlying46 hf
  obtain ⟨z0, z1, m2, _, _, g0, g1⟩ := trod_struct2 Try.underlying23 h0
  simp only [cells_keyS, cells_intS, Value.cells] at h1 g0 g1
  obtain ⟨i, e0, _, w0⟩ := DataW.trod_int Try.underlying3 g0
  obtain ⟨j, e1, _, w1⟩ := DataW.trod_int Try.underlying3 g1
  obtain ⟨b, e2, _, w2⟩ := DataW.trod_int Try.underlying3 h1
  simp at e0 e1 e2
  subst e0 e1 e2
  exact ⟨i, j, b, rfl⟩
end
end Go.Proofs.Ytkgopaelfmppiaa
