/- Slots and their words: the program's way and the document's. -/
import Derived.Test.YtgaoplbocjadaaaYDVRefC
namespace Go.Proofs.Ytgaoplbocjadaaa
open Go.RowKit
set_option linter.unusedSimpArgs false
set_option linter.unusedVariables false
theorem within_any (a n b : Int) (w : World) : Calls Try.prog 97 #[.int .i64 a, .int .i64 n, .int .i64 b] w fun e w' => e = .returned (.bool (decide (a ≤ n) && decide (n ≤ b))) ∧ w' = w := by
  by_cases h1 : a ≤ n
  · by_cases h2 : n ≤ b
    · go_enter Try.func97, Try.ntmps97
      go_wp2_with fail
      go_ret
      exact ⟨by simp [h1, h2], rfl⟩
    · go_enter Try.func97, Try.ntmps97
      go_wp2_with fail
      go_ret
      exact ⟨by simp [h1, h2]; try omega, rfl⟩
  · go_enter Try.func97, Try.ntmps97
    go_wp2_with fail
    go_ret
    exact ⟨by simp [h1]; try omega, rfl⟩
theorem within_is {a n b : Int} (r : Bool) (h : decide (a ≤ n ∧ n ≤ b) = r) (w : World) : Calls Try.prog 97 #[.int .i64 a, .int .i64 n, .int .i64 b] w fun e w' => e = .returned (.bool r) ∧ w' = w := by
  subst h
  rw [Bool.decide_and]
  exact within_any a n b w
/-- Has a slot a word, and which. -/
def slOk (i j b : Int) : Bool := decide ((0 ≤ i ∧ i ≤ 65535) ∧ (0 ≤ j ∧ j ≤ 255) ∧ 0 ≤ b ∧ b ≤ 255)
def slN (i j b : Int) : Int := if slOk i j b = true then i * 65536 + j * 256 + b else 0
def slE (i j b : Int) : Int := if slOk i j b = true then 0 else 2
theorem slOk_yes {i j b : Int} (h : (0 ≤ i ∧ i ≤ 65535) ∧ (0 ≤ j ∧ j ≤ 255) ∧ 0 ≤ b ∧ b ≤ 255) : slOk i j b = true := decide_eq_true h
theorem slOk_no {i j b : Int} (h : ¬ ((0 ≤ i ∧ i ≤ 65535) ∧ (0 ≤ j ∧ j ≤ 255) ∧ 0 ≤ b ∧ b ≤ 255)) : slOk i j b = false := decide_eq_false h
def SlotAt (w : World) (g : Nat) (i j b : Int) : Prop := w.heap[g]? = some (.cells #[.int .i64 i, .int .i64 j, .int .i64 b] 26 (0, 0))
theorem SlotAt.cells {w : World} {g : Nat} {i j b : Int} (h : SlotAt w g i j b) : w.cell? ⟨g, 0, none⟩ = some (.int .i64 i) ∧ w.cell? ⟨g, 1, none⟩ = some (.int .i64 j) ∧ w.cell? ⟨g, 2, none⟩ = some (.int .i64 b) := by
  refine ⟨?_, ?_, ?_⟩ <;> (rw [cell_of_row _ _ _ _ _ _ h]; rfl)
def WordP (i j b : Int) (W : World) (e : Ending) (w' : World) : Prop := e = .returned (.tuple #[.int .i64 (slN i j b), .int .i64 (slE i j b)]) ∧ Below W.heap.size W w'
theorem wordP_yes {i j b : Int} {W w' : World} (h : slOk i j b = true) (hb : Below W.heap.size W w') {n : Int} (hn : n = i * 65536 + j * 256 + b) : WordP i j b W (.returned (.tuple #[.int .i64 n, .int .i64 0])) w' := by
  refine ⟨?_, hb⟩
  rw [slN, slE, if_pos h, if_pos h, hn]
theorem wordP_no {i j b : Int} {W w' : World} (h : slOk i j b = false) (hb : Below W.heap.size W w') : WordP i j b W (.returned (.tuple #[.int .i64 0, .int .i64 2])) w' := by
  refine ⟨?_, hb⟩
  rw [slN, slE, h]
  rfl
set_option maxRecDepth 100000 in
theorem word_yes (i j b : Int) (w : World) (h1 : decide (0 ≤ i ∧ i ≤ 65535) = true) (h2 : decide (0 ≤ j ∧ j ≤ 255) = true) (h3 : decide (0 ≤ b ∧ b ≤ 255) = true) : Calls Try.prog 62 #[.agg #[.int .i64 i, .int .i64 j, .int .i64 b]] w (WordP i j b w) := by
  have hb0 : Below w.heap.size w (w.alloc (.cells #[.int .i64 i, .int .i64 j, .int .i64 b] 26)) := (Below.refl _ _).alloc (Nat.le_refl _) _
  have hk0 : SlotAt (w.alloc (.cells #[.int .i64 i, .int .i64 j, .int .i64 b] 26)) w.heap.size i j b := heap_alloc_new w _
  obtain ⟨c0, c1, c2⟩ := hk0.cells
  have HB0 := Lib.hid hb0
  have HS : Hid (slOk i j b = true) := Lib.hid (by exact slOk_yes ⟨of_decide_eq_true h1, of_decide_eq_true h2, of_decide_eq_true h3⟩)
  clear hb0 hk0
  have g1 := of_decide_eq_true h1
  have g2 := of_decide_eq_true h2
  have g3 := of_decide_eq_true h3
  go_enter Try.func62, Try.ntmps62
  go_wp2_with fail
  go_at_call 97
  refine (within_is true h1 _).mono ?_
  rintro e w1 ⟨rfl, rfl⟩
  go_wp2_with fail
  go_at_call 97
  refine (within_is true h2 _).mono ?_
  rintro e w2 ⟨rfl, rfl⟩
  go_wp2_with fail
  go_at_call 97
  refine (within_is true h3 _).mono ?_
  rintro e w3 ⟨rfl, rfl⟩
  go_wp2_with fail
  go_returns
  exact wordP_yes HS.out HB0.out (by go_num)
set_option maxRecDepth 100000 in
theorem word_no1 (i j b : Int) (w : World) (h1 : decide (0 ≤ i ∧ i ≤ 65535) = false) : Calls Try.prog 62 #[.agg #[.int .i64 i, .int .i64 j, .int .i64 b]] w (WordP i j b w) := by
  have hb0 : Below w.heap.size w (w.alloc (.cells #[.int .i64 i, .int .i64 j, .int .i64 b] 26)) := (Below.refl _ _).alloc (Nat.le_refl _) _
  have hk0 : SlotAt (w.alloc (.cells #[.int .i64 i, .int .i64 j, .int .i64 b] 26)) w.heap.size i j b := heap_alloc_new w _
  obtain ⟨c0, c1, c2⟩ := hk0.cells
  have HB0 := Lib.hid hb0
  have HS : Hid (slOk i j b = false) := Lib.hid (by refine slOk_no (fun h => ?_); have := of_decide_eq_false h1; omega)
  clear hb0 hk0
  go_enter Try.func62, Try.ntmps62
  go_wp2_with fail
  go_at_call 97
  refine (within_is false h1 _).mono ?_
  rintro e w1 ⟨rfl, rfl⟩
  go_wp2_with fail
  go_returns
  exact wordP_no HS.out HB0.out
set_option maxRecDepth 100000 in
theorem word_no2 (i j b : Int) (w : World) (h1 : decide (0 ≤ i ∧ i ≤ 65535) = true) (h2 : decide (0 ≤ j ∧ j ≤ 255) = false) : Calls Try.prog 62 #[.agg #[.int .i64 i, .int .i64 j, .int .i64 b]] w (WordP i j b w) := by
  have hb0 : Below w.heap.size w (w.alloc (.cells #[.int .i64 i, .int .i64 j, .int .i64 b] 26)) := (Below.refl _ _).alloc (Nat.le_refl _) _
  have hk0 : SlotAt (w.alloc (.cells #[.int .i64 i, .int .i64 j, .int .i64 b] 26)) w.heap.size i j b := heap_alloc_new w _
  obtain ⟨c0, c1, c2⟩ := hk0.cells
  have HB0 := Lib.hid hb0
  have HS : Hid (slOk i j b = false) := Lib.hid (by refine slOk_no (fun h => ?_); have := of_decide_eq_false h2; omega)
  clear hb0 hk0
  go_enter Try.func62, Try.ntmps62
  go_wp2_with fail
  go_at_call 97
  refine (within_is true h1 _).mono ?_
  rintro e w1 ⟨rfl, rfl⟩
  go_wp2_with fail
  go_at_call 97
  refine (within_is false h2 _).mono ?_
  rintro e w2 ⟨rfl, rfl⟩
  go_wp2_with fail
  go_returns
  exact wordP_no HS.out HB0.out
set_option maxRecDepth 100000 in
theorem word_no3 (i j b : Int) (w : World) (h1 : decide (0 ≤ i ∧ i ≤ 65535) = true) (h2 : decide (0 ≤ j ∧ j ≤ 255) = true) (h3 : decide (0 ≤ b ∧ b ≤ 255) = false) : Calls Try.prog 62 #[.agg #[.int .i64 i, .int .i64 j, .int .i64 b]] w (WordP i j b w) := by
  have hb0 : Below w.heap.size w (w.alloc (.cells #[.int .i64 i, .int .i64 j, .int .i64 b] 26)) := (Below.refl _ _).alloc (Nat.le_refl _) _
  have hk0 : SlotAt (w.alloc (.cells #[.int .i64 i, .int .i64 j, .int .i64 b] 26)) w.heap.size i j b := heap_alloc_new w _
  obtain ⟨c0, c1, c2⟩ := hk0.cells
  have HB0 := Lib.hid hb0
  have HS : Hid (slOk i j b = false) := Lib.hid (by refine slOk_no (fun h => ?_); have := of_decide_eq_false h3; omega)
  clear hb0 hk0
  go_enter Try.func62, Try.ntmps62
  go_wp2_with fail
  go_at_call 97
  refine (within_is true h1 _).mono ?_
  rintro e w1 ⟨rfl, rfl⟩
  go_wp2_with fail
  go_at_call 97
  refine (within_is true h2 _).mono ?_
  rintro e w2 ⟨rfl, rfl⟩
  go_wp2_with fail
  go_at_call 97
  refine (within_is false h3 _).mono ?_
  rintro e w3 ⟨rfl, rfl⟩
  go_wp2_with fail
  go_returns
  exact wordP_no HS.out HB0.out
theorem word_any (i j b : Int) (w : World) : Calls Try.prog 62 #[.agg #[.int .i64 i, .int .i64 j, .int .i64 b]] w (WordP i j b w) := by
  cases h1 : decide (0 ≤ i ∧ i ≤ 65535) with
  | false => exact word_no1 i j b w h1
  | true =>
    cases h2 : decide (0 ≤ j ∧ j ≤ 255) with
    | false => exact word_no2 i j b w h1 h2
    | true =>
      cases h3 : decide (0 ≤ b ∧ b ≤ 255) with
      | false => exact word_no3 i j b w h1 h2 h3
      | true => exact word_yes i j b w h1 h2 h3
set_option maxRecDepth 100000 in
set_option maxHeartbeats 4000000 in
theorem rword_any (i j b : Int) (w : World) : Calls Try.prog 98 #[.agg #[.int .i64 i, .int .i64 j, .int .i64 b]] w (WordP i j b w) := by
  have hb0 : Below w.heap.size w (w.alloc (.cells #[.int .i64 i, .int .i64 j, .int .i64 b] 26)) := (Below.refl _ _).alloc (Nat.le_refl _) _
  have hk0 : SlotAt (w.alloc (.cells #[.int .i64 i, .int .i64 j, .int .i64 b] 26)) w.heap.size i j b := heap_alloc_new w _
  obtain ⟨c0, c1, c2⟩ := hk0.cells
  have HB0 := Lib.hid hb0
  clear hb0 hk0
  by_cases h_il0 : i < 0
  · go_enter Try.func98, Try.ntmps98
    go_wp2_with fail
    go_returns
    exact wordP_no (slOk_no (by omega)) HB0.out
  by_cases h_65535li : 65535 < i
  · go_enter Try.func98, Try.ntmps98
    go_wp2_with fail
    go_returns
    exact wordP_no (slOk_no (by omega)) HB0.out
  by_cases h_jl0 : j < 0
  · go_enter Try.func98, Try.ntmps98
    go_wp2_with fail
    go_returns
    exact wordP_no (slOk_no (by omega)) HB0.out
  by_cases h_255lj : 255 < j
  · go_enter Try.func98, Try.ntmps98
    go_wp2_with fail
    go_returns
    exact wordP_no (slOk_no (by omega)) HB0.out
  by_cases h_bl0 : b < 0
  · go_enter Try.func98, Try.ntmps98
    go_wp2_with fail
    go_returns
    exact wordP_no (slOk_no (by omega)) HB0.out
  by_cases h_255lb : 255 < b
  · go_enter Try.func98, Try.ntmps98
    go_wp2_with fail
    go_returns
    exact wordP_no (slOk_no (by omega)) HB0.out
  go_enter Try.func98, Try.ntmps98
  go_wp2_with fail
  go_returns
  exact wordP_yes (slOk_yes ⟨⟨by omega, by omega⟩, ⟨by omega, by omega⟩, by omega, by omega⟩) HB0.out (by go_num)
end Go.Proofs.Ytgaoplbocjadaaa