/- Which specs may be: what package value answers, and the document. -/
import Derived.Test.YtacfpdjpionolaaDVa
namespace Go.Proofs.Ytacfpdjpionolaa
open Go.RowKit
set_option linter.unusedSimpArgs false
set_option linter.unusedVariables false
theorem may_no {k a lo hi : Int} (h : ¬ (1 ≤ a ∧ a ≤ 4 ∧ lo ≤ hi ∧ ((k = 8 ∧ 0 ≤ lo ∧ hi ≤ 64) ∨ (¬ k = 8 ∧ 0 < kSize k ∧ kLow k ≤ lo ∧ hi ≤ kHigh k)))) : mayB k a lo hi = false := decide_eq_false h
theorem may_yes {k a lo hi : Int} (h : 1 ≤ a ∧ a ≤ 4 ∧ lo ≤ hi ∧ ((k = 8 ∧ 0 ≤ lo ∧ hi ≤ 64) ∨ (¬ k = 8 ∧ 0 < kSize k ∧ kLow k ≤ lo ∧ hi ≤ kHigh k))) : mayB k a lo hi = true := decide_eq_true h
theorem fit_iff (k n : Int) : fitB k n = true ↔ 0 < kSize k ∧ kLow k ≤ n ∧ n ≤ kHigh k := by simp [fitB]

/-- A spec in a box of a call's own. -/
structure Bx4 (w : World) (k a lo hi : Int) (w' : World) : Prop where
  c0 : w'.cell? ⟨w.heap.size, 0, none⟩ = some (.int .i64 k)
  c1 : w'.cell? ⟨w.heap.size, 1, none⟩ = some (.int .i64 a)
  c2 : w'.cell? ⟨w.heap.size, 2, none⟩ = some (.int .i64 lo)
  c3 : w'.cell? ⟨w.heap.size, 3, none⟩ = some (.int .i64 hi)
  blw : Below w.heap.size w w'
  lt : w.heap.size < w'.heap.size
theorem Bx4.start (w : World) (k a lo hi : Int) (t : TypeId) : Bx4 w k a lo hi (w.alloc (.cells #[.int .i64 k, .int .i64 a, .int .i64 lo, .int .i64 hi] t)) := by
  have hb := heap_alloc_new w (.cells #[.int .i64 k, .int .i64 a, .int .i64 lo, .int .i64 hi] t)
  refine ⟨?_, ?_, ?_, ?_, (Below.refl _ _).alloc (Nat.le_refl _) _, by simp⟩ <;> (rw [cell_of_row _ _ _ _ _ _ hb]; rfl)
theorem Bx4.step {w w1 w2 : World} {k a lo hi : Int} (h : Bx4 w k a lo hi w1) (hb : Below w1.heap.size w1 w2) : Bx4 w k a lo hi w2 := by
  have hc := fun o => hb.cell (p := ⟨w.heap.size, o, none⟩) h.lt
  exact ⟨(hc _).trans h.c0, (hc _).trans h.c1, (hc _).trans h.c2, (hc _).trans h.c3, below_trans' h.blw hb, Nat.lt_of_lt_of_le h.lt hb.size⟩
theorem Bx4.drew {w w1 : World} {k a lo hi : Int} (h : Bx4 w k a lo hi w1) (n : Nat) : Bx4 w k a lo hi (w1.drewN n) := ⟨h.c0, h.c1, h.c2, h.c3, below_drewN h.blw n, h.lt⟩

theorem may_any (k a lo hi : Int) (w : World) : Calls Try.prog 55 #[.agg #[.int .i64 k, .int .i64 a, .int .i64 lo, .int .i64 hi]] w fun e w' => e = .returned (.bool (mayB k a lo hi)) ∧ Below w.heap.size w w' := by
  have hr := fun w => reads_any a w
  have ha := acc_is a
  generalize readsI a = r at hr ha
  have HR := Lib.hid hr
  by_cases h1 : r = 100728832
  · have h0 : mayB k a lo hi = false := may_no (by omega)
    rw [h0]
    subst h1
    clear hr ha h0
    go_enter Try.func55, Try.ntmps55
    go_wp2_with (go_at_call 37; refine (HR.out _).mono ?_; rintro e w1 ⟨rfl, rfl⟩)
    go_ret
    exact ⟨rfl, by go_grown⟩
  have hd : (r == 100728832) = false := by simp [h1]
  by_cases h2 : hi < lo
  · have h0 : mayB k a lo hi = false := may_no (by omega)
    rw [h0]
    clear hr ha h0
    go_enter Try.func55, Try.ntmps55
    go_wp2_with (go_at_call 37; refine (HR.out _).mono ?_; rintro e w1 ⟨rfl, rfl⟩)
    go_ret
    exact ⟨rfl, by go_grown⟩
  by_cases h3 : k = 8
  · subst h3
    by_cases h4 : lo < 0
    · have h0 : mayB 8 a lo hi = false := may_no (by omega)
      rw [h0]
      clear hr ha h0
      go_enter Try.func55, Try.ntmps55
      go_wp2_with (go_at_call 37; refine (HR.out _).mono ?_; rintro e w1 ⟨rfl, rfl⟩)
      go_ret
      exact ⟨rfl, by go_grown⟩
    · have h0 : mayB 8 a lo hi = decide (hi ≤ 64) := by
        by_cases h5 : hi ≤ 64
        · rw [decide_eq_true h5]; exact may_yes (by omega)
        · rw [decide_eq_false h5]; exact may_no (by omega)
      rw [h0]
      clear hr ha h0
      go_enter Try.func55, Try.ntmps55
      go_wp2_with (go_at_call 37; refine (HR.out _).mono ?_; rintro e w1 ⟨rfl, rfl⟩)
      go_ret
      exact ⟨rfl, by go_grown⟩
  · have hd8 : (k == 8) = false := by simp [h3]
    have f1 := fit_iff k lo
    have f2 := fit_iff k hi
    have hf1 := fun w => fits_any k lo w
    have hf2 := fun w => fits_any k hi w
    generalize fitB k lo = b1 at f1 hf1
    generalize fitB k hi = b2 at f2 hf2
    have h0 : mayB k a lo hi = (b1 && b2) := by
      cases b1 <;> cases b2 <;> simp at f1 f2 ⊢
      · exact may_no (by omega)
      · exact may_no (by omega)
      · exact may_no (by omega)
      · exact may_yes (by omega)
    rw [h0]
    have H1 := Lib.hid hf1
    have H2 := Lib.hid hf2
    clear hr ha h0 f1 f2 hf1 hf2
    have HX0 := Lib.hid (Bx4.start w k a lo hi 35)
    cases b1
    · go_enter Try.func55, Try.ntmps55
      go_wp2_with (first | (go_at_call 37; refine (HR.out _).mono ?_; rintro e w1 ⟨rfl, rfl⟩) | (go_at_call 77; refine (H1.out _).mono ?_; rintro e w2 ⟨rfl, hb⟩; have HX1 := Lib.hid (HX0.out.step hb)))
      go_ret
      exact ⟨rfl, HX1.out.blw⟩
    · go_enter Try.func55, Try.ntmps55
      go_wp2_with (first | (go_at_call 37; refine (HR.out _).mono ?_; rintro e w1 ⟨rfl, rfl⟩) | (go_at_call 77; first | (with_reducible refine (H1.out _).mono ?_; rintro e w2 ⟨rfl, hb⟩; have HX1 := Lib.hid (HX0.out.step hb); obtain ⟨c0, c1, c2, c3, -, -⟩ := HX1.out) | (with_reducible refine (H2.out _).mono ?_; rintro e w3 ⟨rfl, hb3⟩; have HX2 := Lib.hid (HX1.out.step hb3))))
      go_ret
      exact ⟨rfl, HX2.out.blw⟩
end Go.Proofs.Ytacfpdjpionolaa