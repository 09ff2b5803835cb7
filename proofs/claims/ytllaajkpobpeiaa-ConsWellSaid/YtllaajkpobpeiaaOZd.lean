/- guard: a guard by since when it waits for a pair, and for a second frame. -/
import Derived.Test.YtllaajkpobpeiaaOZc
namespace Go.Proofs.Ytllaajkpobpeiaa
open Go.RowKit
set_option linter.unusedSimpArgs false
set_option linter.unusedVariables false
/-- A guard that waits since S (or -1), and for a second frame since F (or -1). -/
structure GdT (w : World) (g : Nat) (T G S F : Int) : Prop where
  is : ∃ a f b k, GdAt w g T a f G b k ∧ ((a = true ∧ f = S) ∨ (a = false ∧ S = -1)) ∧ ((b = true ∧ k = F) ∨ (b = false ∧ F = -1)) ∧ 0 ≤ f ∧ f ≤ 2147483647 ∧ 0 ≤ k ∧ k ≤ 2147483647
  t : 0 ≤ T ∧ T ≤ 65535
  g : 0 ≤ G ∧ G ≤ 65535
theorem chE_rcE {a b : Bool} {f k T G S F n : Int} (ha : (a = true ∧ f = S) ∨ (a = false ∧ S = -1)) (hb : (b = true ∧ k = F) ∨ (b = false ∧ F = -1)) (hf : 0 ≤ f) (hk : 0 ≤ k) (hn : n ≤ 4294967296) : chE a f T b k G n = rcE T G S F n := by
  unfold chE rcE
  rcases ha with ⟨rfl, rfl⟩ | ⟨rfl, rfl⟩
  · rw [if_pos (show true = true from rfl), if_neg (show ¬ f < 0 by omega)]
    by_cases h1 : f + T < n
    · rw [if_pos (show lastE true f T < n from h1), if_pos (show f < n - T by omega)]
    · rw [if_neg (show ¬ lastE true f T < n from h1), if_neg (show ¬ f < n - T by omega)]
      rcases hb with ⟨rfl, rfl⟩ | ⟨rfl, rfl⟩
      · by_cases h2 : k + G < n
        · rw [if_pos (show lastE true k G < n from h2), if_pos (show 0 ≤ k ∧ k < n - G by omega)]
        · rw [if_neg (show ¬ lastE true k G < n from h2), if_neg (show ¬ (0 ≤ k ∧ k < n - G) by omega)]
      · rw [if_neg (show ¬ lastE false k G < n by show ¬ (9223372036854775807 : Int) < n; omega), if_neg (show ¬ ((0 : Int) ≤ -1 ∧ -1 < n - G) by omega)]
  · rw [if_neg (show ¬ false = true by simp), if_pos (show (-1 : Int) < 0 by omega)]
section
variable {w w' : World} {g q : Nat} {T G S F : Int}
theorem GdT.lt (h : GdT w g T G S F) : g < w.heap.size := by obtain ⟨a, f, b, k, h1, _⟩ := h.is; exact h1.lt
theorem GdT.below (h : GdT w g T G S F) (hb : Below w.heap.size w w') : GdT w' g T G S F := by
  obtain ⟨a, f, b, k, h1, h2⟩ := h.is
  exact ⟨⟨a, f, b, k, h1.below hb, h2⟩, h.t, h.g⟩
theorem GdT.drew (h : GdT w g T G S F) : GdT w.drew g T G S F := h.below (kD w)
theorem GdT.onl (h : GdT w g T G S F) (ho : Onl q w w') (hn : ¬ g = q) : GdT w' g T G S F := by
  obtain ⟨a, f, b, k, h1, h2⟩ := h.is
  exact ⟨⟨a, f, b, k, h1.onl ho hn, h2⟩, h.t, h.g⟩
theorem drw_below {m : Nat} : Below w.heap.size w (w.drewN m) := below_drewN (Below.refl _ w) m
theorem awakeG (h : GdT w g T G S F) (hS : 0 ≤ S ∨ S = -1) : Calls Try.prog 81 #[.pointer (some ⟨g, 0, none⟩)] w fun e w' => e = .returned (.bool (decide (0 ≤ S))) ∧ w = w' := by
  obtain ⟨a, f, b, k, h1, ha, hb, _⟩ := h.is
  refine (awake_any h1).mono ?_
  rintro e w' ⟨rfl, rfl⟩
  refine ⟨?_, rfl⟩
  rcases ha with ⟨rfl, rfl⟩ | ⟨rfl, rfl⟩
  · rcases hS with hS | hS
    · rw [decide_eq_true hS]
    · omega
  · rfl
theorem checkG (n : Int) (h : GdT w g T G S F) (hn : n ≤ 4294967296) : Calls Try.prog 76 #[.pointer (some ⟨g, 0, none⟩), .int .i64 n] w fun e w' => e = .returned (.int .i64 (rcE T G S F n)) ∧ Below w.heap.size w w' := by
  obtain ⟨a, f, b, k, h1, ha, hb, hf0, hf1, hk0, hk1⟩ := h.is
  have ht := h.t
  have hg := h.g
  refine (gcheck_any n h1 (by omega) (by omega) (by omega) (by omega)).mono ?_
  rintro e w' ⟨rfl, m, rfl⟩
  exact ⟨by rw [chE_rcE ha hb hf0 hk0 hn], drw_below⟩
theorem halfG (n : Int) (h : GdT w g T G S F) (hS : 0 ≤ S ∨ S = -1) (h0 : 0 ≤ n) (h9 : n ≤ 2147483647) : Calls Try.prog 64 #[.pointer (some ⟨g, 0, none⟩), .int .i64 n] w fun e w' => e = .returned (.tuple #[]) ∧ GdT w' g T G S (hfF S F n) ∧ Onl g w w' := by
  obtain ⟨a, f, b, k, h1, ha, hb, hf0, hf1, hk⟩ := h.is
  rcases ha with ⟨rfl, rfl⟩ | ⟨rfl, rfl⟩
  · refine (half_yes n h1 h0 h9).mono ?_
    rintro e w' ⟨rfl, h2, ho⟩
    exact ⟨rfl, ⟨⟨_, _, _, _, h2, .inl ⟨rfl, rfl⟩, .inl ⟨rfl, (if_pos hf0).symm⟩, hf0, hf1, h0, h9⟩, h.t, h.g⟩, ho⟩
  · refine (half_no n h1).mono ?_
    rintro e w' ⟨rfl, rfl⟩
    exact ⟨rfl, by rw [show hfF (-1) F n = F from if_neg (by omega)]; exact h, Onl.refl _ (Nat.le_of_lt h.lt)⟩
theorem wholeG (n : Int) (h : GdT w g T G S F) (hS : 0 ≤ S ∨ S = -1) (h0 : 0 ≤ n) (h9 : n ≤ 2147483647) : Calls Try.prog 65 #[.pointer (some ⟨g, 0, none⟩), .int .i64 n] w fun e w' => e = .returned (.tuple #[]) ∧ GdT w' g T G (whS S n) (whF S F) ∧ Onl g w w' := by
  obtain ⟨a, f, b, k, h1, ha, hb, hf0, hf1, hk⟩ := h.is
  rcases ha with ⟨rfl, rfl⟩ | ⟨rfl, rfl⟩
  · refine (whole_yes n h1 h0 h9).mono ?_
    rintro e w' ⟨rfl, h2, ho⟩
    exact ⟨rfl, ⟨⟨_, _, _, _, h2, .inl ⟨rfl, (if_pos hf0).symm⟩, .inr ⟨rfl, if_pos hf0⟩, h0, h9, hk⟩, h.t, h.g⟩, ho⟩
  · refine (whole_no n h1).mono ?_
    rintro e w' ⟨rfl, rfl⟩
    exact ⟨rfl, by rw [show whS (-1) n = -1 from if_neg (by omega), show whF (-1) F = F from if_neg (by omega)]; exact h, Onl.refl _ (Nat.le_of_lt h.lt)⟩
theorem wakeG (n : Int) (h : GdT w g T G S F) (hS : 0 ≤ S ∨ S = -1) (h0 : 0 ≤ n) (h9 : n ≤ 2147483647) : Calls Try.prog 75 #[.pointer (some ⟨g, 0, none⟩), .int .i64 n] w fun e w' => e = .returned (.bool (decide (S < 0))) ∧ GdT w' g T G (wkS S n) F ∧ Onl g w w' := by
  obtain ⟨a, f, b, k, h1, ha, hb, hf0, hf1, hk⟩ := h.is
  rcases ha with ⟨rfl, rfl⟩ | ⟨rfl, rfl⟩
  · refine (wake_no n h1).mono ?_
    rintro e w' ⟨rfl, rfl⟩
    exact ⟨by rw [decide_eq_false (by omega)], by rw [show wkS f n = f from if_pos hf0]; exact h, Onl.refl _ (Nat.le_of_lt h.lt)⟩
  · refine (wake_yes n h1 h0 h9).mono ?_
    rintro e w' ⟨rfl, h2, ho⟩
    exact ⟨rfl, ⟨⟨_, _, _, _, h2, .inl ⟨rfl, (if_neg (by omega)).symm⟩, hb, h0, h9, hk⟩, h.t, h.g⟩, ho⟩
theorem forkG (h : GdT w g T G S F) : Calls Try.prog 87 #[.pointer (some ⟨g, 0, none⟩)] w fun e w' => ∃ q, w.heap.size ≤ q ∧ e = .returned (.pointer (some ⟨q, 0, none⟩)) ∧ GdT w' q T G S F ∧ Below w.heap.size w w' := by
  obtain ⟨a, f, b, k, h1, h2⟩ := h.is
  refine (fork_any h1).mono ?_
  rintro e w' ⟨q, hq, rfl, h3, hb⟩
  exact ⟨q, hq, rfl, ⟨⟨_, _, _, _, h3, h2⟩, h.t, h.g⟩, hb⟩
/-- How many ticks may still pass. -/
def lfE (T G S F n : Int) : Int := (if F < 0 then (if S + T ≤ n then 0 else S + T - n) else if F + G < S + T then (if F + G ≤ n then 0 else F + G - n) else (if S + T ≤ n then 0 else S + T - n))
end
theorem newG (T G : Int) (w : World) (hT : 1 ≤ T ∧ T ≤ 65535) (hG : 1 ≤ G ∧ G ≤ 65535) : Calls Try.prog 74 #[.int .i64 T, .int .i64 G] w fun e w' => ∃ g, w.heap.size ≤ g ∧ e = .returned (.tuple #[.pointer (some ⟨g, 0, none⟩), .int .i64 0]) ∧ GdT w' g T G (-1) (-1) ∧ Below w.heap.size w w' := by
  refine (gnew_ok T G w (decide_eq_true hT) (decide_eq_true hG)).mono ?_
  rintro e w' ⟨g, hg, rfl, h1, hb⟩
  exact ⟨g, hg, rfl, ⟨⟨_, _, _, _, h1, .inr ⟨rfl, rfl⟩, .inr ⟨rfl, rfl⟩, by omega, by omega, by omega, by omega⟩, by omega, by omega⟩, hb⟩
end Go.Proofs.Ytllaajkpobpeiaa