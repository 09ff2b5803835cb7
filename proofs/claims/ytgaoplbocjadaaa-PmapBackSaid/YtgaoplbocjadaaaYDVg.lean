/- What package value answers, and the document's: the rights, the reasons, which specs may be. -/
import Derived.Test.YtgaoplbocjadaaaYDVRefC
import Derived.Deep.RegionHeld
namespace Go.Proofs.Ytgaoplbocjadaaa
open Go.RowKit
set_option linter.unusedSimpArgs false
set_option linter.unusedVariables false
def readsI (a : Int) : Int := if a = 1 then 0 else if a = 2 then 100728833 else if a = 3 then 0 else if a = 4 then 0 else 100728832
def writesI (a : Int) : Int := if a = 1 then 100728834 else if a = 2 then 0 else if a = 3 then 0 else if a = 4 then 100728834 else 100728832
theorem acc_cases (a : Int) : a = 1 ∨ a = 2 ∨ a = 3 ∨ a = 4 ∨ (¬ a = 1 ∧ ¬ a = 2 ∧ ¬ a = 3 ∧ ¬ a = 4) := by omega
theorem acc_other {a : Int} (h : ¬ a = 1 ∧ ¬ a = 2 ∧ ¬ a = 3 ∧ ¬ a = 4) : readsI a = 100728832 ∧ writesI a = 100728832 := by
  obtain ⟨h1, h2, h3, h4⟩ := h
  simp [readsI, writesI, h1, h2, h3, h4]
theorem acc_is (a : Int) : (readsI a = 100728832 ↔ ¬ (1 ≤ a ∧ a ≤ 4)) := by
  rcases acc_cases a with rfl | rfl | rfl | rfl | h
  all_goals first | (simp [readsI]; done) | (rw [(acc_other h).1]; omega)

theorem reads_any (a : Int) (w : World) : Calls Try.prog 121 #[.int .i64 a] w fun e w' => e = .returned (.int .i64 (readsI a)) ∧ w = w' := by
  rcases acc_cases a with rfl | rfl | rfl | rfl | h
  case inr.inr.inr.inr =>
    rw [(acc_other h).1]
    obtain ⟨h1, h2, h3, h4⟩ := h
    go_enter Try.func121, Try.ntmps121
    go_wp2
    go_ret
    exact ⟨rfl, rfl⟩
  all_goals
    go_enter Try.func121, Try.ntmps121
    go_wp2
    go_ret
    exact ⟨rfl, rfl⟩
theorem acc_in (a : Int) : a < 0 ∨ 4 < a ∨ a = 0 ∨ a = 1 ∨ a = 2 ∨ a = 3 ∨ a = 4 := by omega
/-- The reasons. -/
def reasL : List Int := [84082688, 84148224, 84148225, 84148226, 84148227, 84148228, 100728832, 100728833, 100728834, 100794368, 100925505, 100925506, 101122064, 101122066, 101122067, 101253137, 101253168, 101253169, 101253170, 134217728, 134217762]
/-- Which specs may be. -/
def mayB (k a lo hi : Int) : Bool := decide (1 ≤ a ∧ a ≤ 4 ∧ lo ≤ hi ∧ ((k = 8 ∧ 0 ≤ lo ∧ hi ≤ 64) ∨ (¬ k = 8 ∧ 0 < kSize k ∧ kLow k ≤ lo ∧ hi ≤ kHigh k)))
def specV (k a lo hi : Int) : Value := .agg #[.int .i64 k, .int .i64 a, .int .i64 lo, .int .i64 hi]
end Go.Proofs.Ytgaoplbocjadaaa
namespace Go.Proofs.Ytgaoplbocjadaaa
open Go.RowKit
set_option linter.unusedSimpArgs false
set_option linter.unusedVariables false
theorem may_no {k a lo hi : Int} (h : ¬ (1 ≤ a ∧ a ≤ 4 ∧ lo ≤ hi ∧ ((k = 8 ∧ 0 ≤ lo ∧ hi ≤ 64) ∨ (¬ k = 8 ∧ 0 < kSize k ∧ kLow k ≤ lo ∧ hi ≤ kHigh k)))) : mayB k a lo hi = false := decide_eq_false h
theorem may_yes {k a lo hi : Int} (h : 1 ≤ a ∧ a ≤ 4 ∧ lo ≤ hi ∧ ((k = 8 ∧ 0 ≤ lo ∧ hi ≤ 64) ∨ (¬ k = 8 ∧ 0 < kSize k ∧ kLow k ≤ lo ∧ hi ≤ kHigh k))) : mayB k a lo hi = true := decide_eq_true h
theorem fit_iff (k n : Int) : fitB k n = true ↔ 0 < kSize k ∧ kLow k ≤ n ∧ n ≤ kHigh k := by simp [fitB]

/-- A spec in a box of a call's own. -/
structure Bx4 (w : World) (k a lo hi : Int) (w' : World) : Prop where
  c0 : w'.cell? ⟨w.heap.size, 0, none⟩ = some (.int .i64 k)
  c1 : w'.cell? ⟨w.heap.size, 1, none⟩ = some (.int .i64 a)
  c2 : w'.cell? ⟨w.heap.size, 2, none⟩ = some (.int .i64 lo)
  c3 : w'.cell? ⟨w.heap.size, 3, none⟩ = some (.int .i64 hi)
  blw : Below w.heap.size w w'
  lt : w.heap.size < w'.heap.size
theorem Bx4.start (w : World) (k a lo hi : Int) (t : TypeId) : Bx4 w k a lo hi (w.alloc (.cells #[.int .i64 k, .int .i64 a, .int .i64 lo, .int .i64 hi] t)) := by
  have hb := heap_alloc_new w (.cells #[.int .i64 k, .int .i64 a, .int .i64 lo, .int .i64 hi] t)
  refine ⟨?_, ?_, ?_, ?_, (Below.refl _ _).alloc (Nat.le_refl _) _, by simp⟩ <;> (rw [cell_of_row _ _ _ _ _ _ hb]; rfl)
theorem Bx4.step {w w1 w2 : World} {k a lo hi : Int} (h : Bx4 w k a lo hi w1) (hb : Below w1.heap.size w1 w2) : Bx4 w k a lo hi w2 := by
  have hc := fun o => hb.cell (p := ⟨w.heap.size, o, none⟩) h.lt
  exact ⟨(hc _).trans h.c0, (hc _).trans h.c1, (hc _).trans h.c2, (hc _).trans h.c3, below_trans' h.blw hb, Nat.lt_of_lt_of_le h.lt hb.size⟩
theorem Bx4.drew {w w1 : World} {k a lo hi : Int} (h : Bx4 w k a lo hi w1) (n : Nat) : Bx4 w k a lo hi (w1.drewN n) := ⟨h.c0, h.c1, h.c2, h.c3, below_drewN h.blw n, h.lt⟩

theorem may_any (k a lo hi : Int) (w : World) : Calls Try.prog 92 #[.agg #[.int .i64 k, .int .i64 a, .int .i64 lo, .int .i64 hi]] w fun e w' => e = .returned (.bool (mayB k a lo hi)) ∧ Below w.heap.size w w' := by
  have hr := fun w => reads_any a w
  have ha := acc_is a
  generalize readsI a = r at hr ha
  have HR := Lib.hid hr
  by_cases h1 : r = 100728832
  · have h0 : mayB k a lo hi = false := may_no (by omega)
    rw [h0]
    subst h1
    clear hr ha h0
    go_enter Try.func92, Try.ntmps92
    go_wp2_with (go_at_call 121; refine (HR.out _).mono ?_; rintro e w1 ⟨rfl, rfl⟩)
    go_ret
    exact ⟨rfl, by go_grown⟩
  have hd : (r == 100728832) = false := by simp [h1]
  by_cases h2 : hi < lo
  · have h0 : mayB k a lo hi = false := may_no (by omega)
    rw [h0]
    clear hr ha h0
    go_enter Try.func92, Try.ntmps92
    go_wp2_with (go_at_call 121; refine (HR.out _).mono ?_; rintro e w1 ⟨rfl, rfl⟩)
    go_ret
    exact ⟨rfl, by go_grown⟩
  by_cases h3 : k = 8
  · subst h3
    by_cases h4 : lo < 0
    · have h0 : mayB 8 a lo hi = false := may_no (by omega)
      rw [h0]
      clear hr ha h0
      go_enter Try.func92, Try.ntmps92
      go_wp2_with (go_at_call 121; refine (HR.out _).mono ?_; rintro e w1 ⟨rfl, rfl⟩)
      go_ret
      exact ⟨rfl, by go_grown⟩
    · have h0 : mayB 8 a lo hi = decide (hi ≤ 64) := by
        by_cases h5 : hi ≤ 64
        · rw [decide_eq_true h5]; exact may_yes (by omega)
        · rw [decide_eq_false h5]; exact may_no (by omega)
      rw [h0]
      clear hr ha h0
      go_enter Try.func92, Try.ntmps92
      go_wp2_with (go_at_call 121; refine (HR.out _).mono ?_; rintro e w1 ⟨rfl, rfl⟩)
      go_ret
      exact ⟨rfl, by go_grown⟩
  · have hd8 : (k == 8) = false := by simp [h3]
    have f1 := fit_iff k lo
    have f2 := fit_iff k hi
    have hf1 := fun w => fits_any k lo w
    have hf2 := fun w => fits_any k hi w
    generalize fitB k lo = b1 at f1 hf1
    generalize fitB k hi = b2 at f2 hf2
    have h0 : mayB k a lo hi = (b1 && b2) := by
      cases b1 <;> cases b2 <;> simp at f1 f2 ⊢
      · exact may_no (by omega)
      · exact may_no (by omega)
      · exact may_no (by omega)
      · exact may_yes (by omega)
    rw [h0]
    have H1 := Lib.hid hf1
    have H2 := Lib.hid hf2
    clear hr ha h0 f1 f2 hf1 hf2
    have HX0 := Lib.hid (Bx4.start w k a lo hi 75)
    cases b1
    · go_enter Try.func92, Try.ntmps92
      go_wp2_with (first | (go_at_call 121; refine (HR.out _).mono ?_; rintro e w1 ⟨rfl, rfl⟩) | (go_at_call 122; refine (H1.out _).mono ?_; rintro e w2 ⟨rfl, hb⟩; have HX1 := Lib.hid (HX0.out.step hb)))
      go_ret
      exact ⟨rfl, HX1.out.blw⟩
    · go_enter Try.func92, Try.ntmps92
      go_wp2_with (first | (go_at_call 121; refine (HR.out _).mono ?_; rintro e w1 ⟨rfl, rfl⟩) | (go_at_call 122; first | (with_reducible refine (H1.out _).mono ?_; rintro e w2 ⟨rfl, hb⟩; have HX1 := Lib.hid (HX0.out.step hb); obtain ⟨c0, c1, c2, c3, -, -⟩ := HX1.out) | (with_reducible refine (H2.out _).mono ?_; rintro e w3 ⟨rfl, hb3⟩; have HX2 := Lib.hid (HX1.out.step hb3))))
      go_ret
      exact ⟨rfl, HX2.out.blw⟩
end Go.Proofs.Ytgaoplbocjadaaa
namespace Go.Proofs.Ytgaoplbocjadaaa
open Go.RowKit
set_option linter.unusedSimpArgs false
set_option linter.unusedVariables false
def lenA (n lo hi : Int) : Int := if n < lo then 101122067 else if hi < n then 101122066 else 0
def fitsA (k a lo hi : Int) (l : List Int) : Int :=
  if mayB k a lo hi = false then 134217728 else if k = 8 then lenA l.length lo hi
  else if ¬ lenA l.length (kSize k) (kSize k) = 0 then lenA l.length (kSize k) (kSize k)
  else if ¬ getE k l = 0 then 101253168 else if hi < getN k l then 101253169 else if getN k l < lo then 101253170 else 0

theorem length_any (A : Option Addr) (n c : Nat) (lo hi : Int) (w : World) (hc : n ≤ 9223372036854775807) : Calls Try.prog 110 #[.slice A n c, .int .i64 lo, .int .i64 hi] w fun e w' => e = .returned (.int .i64 (lenA n lo hi)) ∧ w = w' := by
  by_cases h1 : (n : Int) < lo
  · have e : lenA n lo hi = 101122067 := if_pos h1
    rw [e]
    clear e
    go_enter Try.func110, Try.ntmps110
    go_wp2
    go_ret
    exact ⟨rfl, rfl⟩
  by_cases h2 : hi < (n : Int)
  · have e : lenA n lo hi = 101122066 := by unfold lenA; rw [if_neg h1, if_pos h2]
    rw [e]
    clear e
    go_enter Try.func110, Try.ntmps110
    go_wp2
    go_ret
    exact ⟨rfl, rfl⟩
  · have e : lenA n lo hi = 0 := by unfold lenA; rw [if_neg h1, if_neg h2]
    rw [e]
    clear e
    go_enter Try.func110, Try.ntmps110
    go_wp2
    go_ret
    exact ⟨rfl, rfl⟩
theorem byt_max {w : World} {B n c : Nat} {A : Option Addr} {l : List Int} (h : Byt w B A n c l) : n ≤ 9223372036854775807 := by
  have h1 := h.cap
  have h2 := h.max
  simp only [maxLen] at h2
  omega
theorem Byt.low {w w' : World} {n c : Nat} {A : Option Addr} {l : List Int} (h : Byt w w.heap.size A n c l) (hb : Below w.heap.size w w') : Byt w' w'.heap.size A n c l := (h.below hb).more hb.size
theorem vfits_any (k a lo hi : Int) (w : World) (A : Option Addr) (n c : Nat) (l : List Int) (h : Byt w w.heap.size A n c l) : Calls Try.prog 75 #[.agg #[.int .i64 k, .int .i64 a, .int .i64 lo, .int .i64 hi], .slice A n c] w fun e w' => e = .returned (.int .i64 (fitsA k a lo hi l)) ∧ Below w.heap.size w w' := by
  have hm := fun w => may_any k a lo hi w
  have hl := h.len
  have hx := byt_max h
  have HX0 := Lib.hid (Bx4.start w k a lo hi 75)
  by_cases h0 : mayB k a lo hi = false
  · rw [h0] at hm
    have e : fitsA k a lo hi l = 134217728 := if_pos h0
    rw [e]
    have HM := Lib.hid hm
    clear hm e h0 h hl hx
    go_enter Try.func75, Try.ntmps75
    go_wp2_with (first | (go_at_call 92; refine (HM.out _).mono ?_; rintro e w1 ⟨rfl, hb1⟩; have HX1 := Lib.hid (HX0.out.step hb1); obtain ⟨c0, c1, c2, c3, -, -⟩ := HX1.out))
    go_ret
    exact ⟨rfl, HX1.out.blw⟩
  have h1 : mayB k a lo hi = true := by simpa using h0
  rw [h1] at hm
  have HM := Lib.hid hm
  by_cases h8 : k = 8
  · subst h8
    have e : fitsA 8 a lo hi l = lenA n lo hi := by unfold fitsA; rw [if_neg h0, if_pos rfl, hl]
    rw [e]
    have HN := Lib.hid (fun w => length_any A n c lo hi w hx)
    clear hm e h0 h1 h hl hx
    go_enter Try.func75, Try.ntmps75
    go_wp2_with (first | (go_at_call 92; refine (HM.out _).mono ?_; rintro e w1 ⟨rfl, hb1⟩; have HX1 := Lib.hid (HX0.out.step hb1); obtain ⟨c0, c1, c2, c3, -, -⟩ := HX1.out) | (go_at_call 110; refine (HN.out _).mono ?_; rintro e w3 ⟨rfl, rfl⟩))
    go_ret
    exact ⟨rfl, HX1.out.blw⟩
  have hd8 : (k == 8) = false := by simp [h8]
  have HS := Lib.hid (fun w => size_any k w)
  have hN := fun w => length_any A n c (kSize k) (kSize k) w hx
  have e0 : fitsA k a lo hi l = if ¬ lenA n (kSize k) (kSize k) = 0 then lenA n (kSize k) (kSize k) else if ¬ getE k l = 0 then 101253168 else if hi < getN k l then 101253169 else if getN k l < lo then 101253170 else 0 := by unfold fitsA; rw [if_neg h0, if_neg h8, hl]
  rw [e0]
  clear e0
  have hkb := k_bounds k
  have HKB := Lib.hid hkb
  generalize lenA n (kSize k) (kSize k) = q at hN ⊢
  have HN := Lib.hid hN
  by_cases hq : q = 0
  · subst hq
    rw [if_neg (by simp)]
    have hg := fun (w' : World) (hb : Below w.heap.size w w') => get_any k w' A n c l (h.low hb)
    unfold GetPost at hg
    generalize getE k l = E at hg ⊢
    generalize getN k l = N at hg ⊢
    have HG := Lib.hid hg
    clear hg
    by_cases hE : E = 0
    · subst hE
      rw [if_neg (by simp)]
      by_cases h3 : hi < N
      · rw [if_pos h3]
        clear hm h0 h1 h hl hx hN hkb
        go_enter Try.func75, Try.ntmps75
        go_wp2_with (first | (go_at_call 92; refine (HM.out _).mono ?_; rintro e w1 ⟨rfl, hb1⟩; have HX1 := Lib.hid (HX0.out.step hb1); obtain ⟨c0, c1, c2, c3, -, -⟩ := HX1.out) | (go_at_call 106; refine (HS.out _).mono ?_; rintro e w2 ⟨rfl, hb2⟩; have HX2 := Lib.hid (HX1.out.step hb2); obtain ⟨c0, c1, c2, c3, -, -⟩ := HX2.out) | (go_at_call 110; refine (HN.out _).mono ?_; rintro e w3 ⟨rfl, rfl⟩) | (go_at_call 111; refine (HG.out _ HX2.out.blw).mono ?_; rintro e w4 ⟨rfl, hb4⟩; have HX4 := Lib.hid (HX2.out.step hb4); obtain ⟨c0, c1, c2, c3, -, -⟩ := HX4.out))
        go_ret
        exact ⟨rfl, HX4.out.blw⟩
      · rw [if_neg h3]
        by_cases h4 : N < lo
        · rw [if_pos h4]
          clear hm h0 h1 h hl hx hN hkb
          go_enter Try.func75, Try.ntmps75
          go_wp2_with (first | (go_at_call 92; refine (HM.out _).mono ?_; rintro e w1 ⟨rfl, hb1⟩; have HX1 := Lib.hid (HX0.out.step hb1); obtain ⟨c0, c1, c2, c3, -, -⟩ := HX1.out) | (go_at_call 106; refine (HS.out _).mono ?_; rintro e w2 ⟨rfl, hb2⟩; have HX2 := Lib.hid (HX1.out.step hb2); obtain ⟨c0, c1, c2, c3, -, -⟩ := HX2.out) | (go_at_call 110; refine (HN.out _).mono ?_; rintro e w3 ⟨rfl, rfl⟩) | (go_at_call 111; refine (HG.out _ HX2.out.blw).mono ?_; rintro e w4 ⟨rfl, hb4⟩; have HX4 := Lib.hid (HX2.out.step hb4); obtain ⟨c0, c1, c2, c3, -, -⟩ := HX4.out))
          go_ret
          exact ⟨rfl, HX4.out.blw⟩
        · rw [if_neg h4]
          clear hm h0 h1 h hl hx hN hkb
          go_enter Try.func75, Try.ntmps75
          go_wp2_with (first | (go_at_call 92; refine (HM.out _).mono ?_; rintro e w1 ⟨rfl, hb1⟩; have HX1 := Lib.hid (HX0.out.step hb1); obtain ⟨c0, c1, c2, c3, -, -⟩ := HX1.out) | (go_at_call 106; refine (HS.out _).mono ?_; rintro e w2 ⟨rfl, hb2⟩; have HX2 := Lib.hid (HX1.out.step hb2); obtain ⟨c0, c1, c2, c3, -, -⟩ := HX2.out) | (go_at_call 110; refine (HN.out _).mono ?_; rintro e w3 ⟨rfl, rfl⟩) | (go_at_call 111; refine (HG.out _ HX2.out.blw).mono ?_; rintro e w4 ⟨rfl, hb4⟩; have HX4 := Lib.hid (HX2.out.step hb4); obtain ⟨c0, c1, c2, c3, -, -⟩ := HX4.out))
          go_ret
          exact ⟨rfl, HX4.out.blw⟩
    · rw [if_pos hE]
      have hdE : (E != 0) = true := by simp [hE]
      clear hm h0 h1 h hl hx hN hkb
      go_enter Try.func75, Try.ntmps75
      go_wp2_with (first | (go_at_call 92; refine (HM.out _).mono ?_; rintro e w1 ⟨rfl, hb1⟩; have HX1 := Lib.hid (HX0.out.step hb1); obtain ⟨c0, c1, c2, c3, -, -⟩ := HX1.out) | (go_at_call 106; refine (HS.out _).mono ?_; rintro e w2 ⟨rfl, hb2⟩; have HX2 := Lib.hid (HX1.out.step hb2); obtain ⟨c0, c1, c2, c3, -, -⟩ := HX2.out) | (go_at_call 110; refine (HN.out _).mono ?_; rintro e w3 ⟨rfl, rfl⟩) | (go_at_call 111; refine (HG.out _ HX2.out.blw).mono ?_; rintro e w4 ⟨rfl, hb4⟩; have HX4 := Lib.hid (HX2.out.step hb4); obtain ⟨c0, c1, c2, c3, -, -⟩ := HX4.out))
      go_ret
      exact ⟨rfl, HX4.out.blw⟩
  · rw [if_pos hq]
    have hdq : (q != 0) = true := by simp [hq]
    clear hm h0 h1 h hl hx hN hkb
    go_enter Try.func75, Try.ntmps75
    go_wp2_with (first | (go_at_call 92; refine (HM.out _).mono ?_; rintro e w1 ⟨rfl, hb1⟩; have HX1 := Lib.hid (HX0.out.step hb1); obtain ⟨c0, c1, c2, c3, -, -⟩ := HX1.out) | (go_at_call 106; refine (HS.out _).mono ?_; rintro e w2 ⟨rfl, hb2⟩; have HX2 := Lib.hid (HX1.out.step hb2); obtain ⟨c0, c1, c2, c3, -, -⟩ := HX2.out) | (go_at_call 110; refine (HN.out _).mono ?_; rintro e w3 ⟨rfl, rfl⟩))
    go_ret
    exact ⟨rfl, HX2.out.blw⟩

def numN (k a lo hi : Int) (l : List Int) : Int := if fitsA k a lo hi l = 0 then getN k l else 0
def numB (k a lo hi : Int) (l : List Int) : Bool := decide (fitsA k a lo hi l = 0 ∧ getE k l = 0)
theorem vnum_any (k a lo hi : Int) (w : World) (A : Option Addr) (n c : Nat) (l : List Int) (h : Byt w w.heap.size A n c l) : Calls Try.prog 105 #[.agg #[.int .i64 k, .int .i64 a, .int .i64 lo, .int .i64 hi], .slice A n c] w fun e w' => e = .returned (.tuple #[.int .i64 (numN k a lo hi l), .bool (numB k a lo hi l)]) ∧ Below w.heap.size w w' := by
  have hf := fun (w' : World) (hb : Below w.heap.size w w') => vfits_any k a lo hi w' A n c l (h.low hb)
  have hg := fun (w' : World) (hb : Below w.heap.size w w') => get_any k w' A n c l (h.low hb)
  unfold GetPost at hg
  have HX0 := Lib.hid (Bx4.start w k a lo hi 75)
  have HG := Lib.hid hg
  unfold numN numB
  generalize fitsA k a lo hi l = F at hf ⊢
  have HF := Lib.hid hf
  by_cases h0 : F = 0
  · subst h0
    rw [if_pos rfl]
    have e : decide ((0 : Int) = 0 ∧ getE k l = 0) = (getE k l == 0) := by rw [Bool.eq_iff_iff]; simp
    rw [e]
    clear e h hf hg
    generalize getE k l = E at HG ⊢
    generalize getN k l = N at HG ⊢
    go_enter Try.func105, Try.ntmps105
    go_wp2_with (first | (go_at_call 75; refine (HF.out _ HX0.out.blw).mono ?_; rintro e w1 ⟨rfl, hb1⟩; have HX1 := Lib.hid (HX0.out.step hb1); obtain ⟨c0, c1, c2, c3, -, -⟩ := HX1.out) | (go_at_call 111; refine (HG.out _ HX1.out.blw).mono ?_; rintro e w4 ⟨rfl, hb4⟩; have HX4 := Lib.hid (HX1.out.step hb4)))
    go_ret2
    exact ⟨rfl, HX4.out.blw⟩
  · rw [if_neg h0]
    have e : decide (F = 0 ∧ getE k l = 0) = false := by simp [h0]
    have hd : (F != 0) = true := by simp [h0]
    rw [e]
    clear e h hf hg h0
    go_enter Try.func105, Try.ntmps105
    go_wp2_with (go_at_call 75; refine (HF.out _ HX0.out.blw).mono ?_; rintro e w1 ⟨rfl, hb1⟩; have HX1 := Lib.hid (HX0.out.step hb1))
    go_ret2
    exact ⟨rfl, HX1.out.blw⟩
end Go.Proofs.Ytgaoplbocjadaaa
namespace Go.Proofs.Ytgaoplbocjadaaa
open Go.RowKit
set_option linter.unusedSimpArgs false
set_option linter.unusedVariables false
theorem rmay_any (k a lo hi : Int) (w : World) : Calls Try.prog 89 #[.agg #[.int .i64 k, .int .i64 a, .int .i64 lo, .int .i64 hi]] w fun e w' => e = .returned (.bool (mayB k a lo hi)) ∧ Below w.heap.size w w' := by
  have HX0 := Lib.hid (Bx4.start w k a lo hi 75)
  have HS := Lib.hid (fun w => shape_any k w)
  have HB : Hid (∀ b, b = mayB k a lo hi → Ending.returned (.bool b) = .returned (.bool (mayB k a lo hi))) := Lib.hid fun b h => by rw [h]
  by_cases h8 : k = 8
  · subst h8
    go_enter Try.func89, Try.ntmps89
    go_wp2_with (go_at_call 52; refine (HS.out _).mono ?_; rintro e w1 ⟨rfl, rfl⟩)
    all_goals
      go_ret
      refine ⟨HB.out _ ?_, HX0.out.blw⟩
      first
        | exact (may_no (by omega)).symm
        | exact (may_yes (by omega)).symm
        | (unfold mayB; exact decide_eq_decide.2 (by omega))
  · have hd8 : (k == 8) = false := by simp [h8]
    go_enter Try.func89, Try.ntmps89
    go_wp2_with (go_at_call 52; refine (HS.out _).mono ?_; rintro e w1 ⟨rfl, rfl⟩)
    all_goals
      go_ret
      refine ⟨HB.out _ ?_, HX0.out.blw⟩
      first
        | exact (may_no (by omega)).symm
        | exact (may_yes (by omega)).symm
        | (unfold mayB; exact decide_eq_decide.2 (by omega))

theorem rfits_any (k a lo hi : Int) (w : World) (A : Option Addr) (n c : Nat) (l : List Int) (h : Byt w w.heap.size A n c l) : Calls Try.prog 72 #[.agg #[.int .i64 k, .int .i64 a, .int .i64 lo, .int .i64 hi], .slice A n c] w fun e w' => e = .returned (.int .i64 (fitsA k a lo hi l)) ∧ Below w.heap.size w w' := by
  have hm := fun w => rmay_any k a lo hi w
  have hl := h.len
  have hx := byt_max h
  have HX0 := Lib.hid (Bx4.start w k a lo hi 75)
  by_cases h0 : mayB k a lo hi = false
  · rw [h0] at hm
    have e : fitsA k a lo hi l = 134217728 := if_pos h0
    rw [e]
    have HM := Lib.hid hm
    clear hm e h0 h hl hx
    go_enter Try.func72, Try.ntmps72
    go_wp2_with (go_at_call 89; refine (HM.out _).mono ?_; rintro e w1 ⟨rfl, hb1⟩; have HX1 := Lib.hid (HX0.out.step hb1); obtain ⟨c0, c1, c2, c3, -, -⟩ := HX1.out)
    go_ret
    exact ⟨rfl, HX1.out.blw⟩
  have h1 : mayB k a lo hi = true := by simpa using h0
  rw [h1] at hm
  have HM := Lib.hid hm
  have HS := Lib.hid (fun w => shape_any k w)
  have HMY : Hid (1 ≤ a ∧ a ≤ 4 ∧ lo ≤ hi ∧ ((k = 8 ∧ 0 ≤ lo ∧ hi ≤ 64) ∨ (¬ k = 8 ∧ 0 < kSize k ∧ kLow k ≤ lo ∧ hi ≤ kHigh k))) := Lib.hid (of_decide_eq_true h1)
  have hg := fun (w' : World) (hb : Below w.heap.size w w') => rget_any k w' A n c l (h.low hb)
  unfold GetPost at hg
  have hF : fitsA k a lo hi l = if k = 8 then lenA n lo hi else if ¬ lenA n (kSize k) (kSize k) = 0 then lenA n (kSize k) (kSize k) else if ¬ getE k l = 0 then 101253168 else if hi < getN k l then 101253169 else if getN k l < lo then 101253170 else 0 := by unfold fitsA; rw [if_neg h0, hl]
  rw [hF]
  clear hF h1 h0 hm
  generalize getE k l = E at hg ⊢
  generalize getN k l = N at hg ⊢
  have HG := Lib.hid hg
  have HR : Hid (∀ x y : Int, x = y → Ending.returned (.int .i64 x) = .returned (.int .i64 y)) := Lib.hid fun x y h => by rw [h]
  clear hg h hl
  by_cases h8 : k = 8
  · subst h8
    rw [if_pos rfl]
    clear HG
    obtain ⟨-, -, m1, m2⟩ := HMY.out
    have m3 : 0 ≤ lo ∧ hi ≤ 64 := by omega
    obtain ⟨m3, m4⟩ := m3
    clear m2
    go_enter Try.func72, Try.ntmps72
    go_wp2_with (first | (go_at_call 89; refine (HM.out _).mono ?_; rintro e w1 ⟨rfl, hb1⟩; have HX1 := Lib.hid (HX0.out.step hb1); obtain ⟨c0, c1, c2, c3, -, -⟩ := HX1.out) | (go_at_call 52; refine (HS.out _).mono ?_; rintro e w1 ⟨rfl, rfl⟩))
    all_goals
      go_ret
      refine ⟨HR.out _ _ ?_, HX1.out.blw⟩
      unfold lenA
      repeat (first | rfl | (rw [if_pos (by omega)]) | (rw [if_neg (by omega)]))
  · rw [if_neg h8]
    have hd8 : (k == 8) = false := by simp [h8]
    have hs : 0 < kSize k := by have := HMY.out; omega
    generalize kSize k = S at *
    generalize kLow k = L1 at *
    generalize kHigh k = H1 at *
    have hL : lenA n S S = if (n : Int) < S then 101122067 else if S < (n : Int) then 101122066 else 0 := rfl
    rw [hL]
    clear hL HMY
    by_cases hE : E = 0
    · subst hE
      go_enter Try.func72, Try.ntmps72
      go_wp2_with (first | (go_at_call 89; refine (HM.out _).mono ?_; rintro e w1 ⟨rfl, hb1⟩; have HX1 := Lib.hid (HX0.out.step hb1); obtain ⟨c0, c1, c2, c3, -, -⟩ := HX1.out) | (go_at_call 52; refine (HS.out _).mono ?_; rintro e w1 ⟨rfl, rfl⟩) | (go_at_call 107; refine (HG.out _ HX1.out.blw).mono ?_; rintro e w4 ⟨rfl, hb4⟩; have HX4 := Lib.hid (HX1.out.step hb4); obtain ⟨c0, c1, c2, c3, -, -⟩ := HX4.out))
      all_goals
        go_ret
        refine ⟨HR.out _ _ ?_, by first | exact HX4.out.blw | exact HX1.out.blw⟩
        repeat (first | rfl | omega | (rw [if_pos (by omega)]) | (rw [if_neg (by omega)]))
    · have hdE : (E != 0) = true := by simp [hE]
      go_enter Try.func72, Try.ntmps72
      go_wp2_with (first | (go_at_call 89; refine (HM.out _).mono ?_; rintro e w1 ⟨rfl, hb1⟩; have HX1 := Lib.hid (HX0.out.step hb1); obtain ⟨c0, c1, c2, c3, -, -⟩ := HX1.out) | (go_at_call 52; refine (HS.out _).mono ?_; rintro e w1 ⟨rfl, rfl⟩) | (go_at_call 107; refine (HG.out _ HX1.out.blw).mono ?_; rintro e w4 ⟨rfl, hb4⟩; have HX4 := Lib.hid (HX1.out.step hb4); obtain ⟨c0, c1, c2, c3, -, -⟩ := HX4.out))
      all_goals
        go_ret
        refine ⟨HR.out _ _ ?_, by first | exact HX4.out.blw | exact HX1.out.blw⟩
        repeat (first | rfl | omega | (rw [if_pos (by omega)]) | (rw [if_neg (by omega)]))

theorem num_parts (k a lo hi : Int) (l : List Int) : numN k a lo hi l = (if k = 8 ∨ ¬ fitsA k a lo hi l = 0 then 0 else getN k l) ∧ numB k a lo hi l = decide (¬ (k = 8 ∨ ¬ fitsA k a lo hi l = 0)) := by
  unfold numN numB
  by_cases h8 : k = 8
  · subst h8
    have h1 : getE 8 l = 2 := rfl
    have h2 : getN 8 l = 0 := rfl
    rw [h1, h2]
    simp
  · by_cases hF : fitsA k a lo hi l = 0
    · have hE : getE k l = 0 := by
        by_cases hE : getE k l = 0
        · exact hE
        · exfalso
          have h0 : ¬ mayB k a lo hi = false := fun e => by unfold fitsA at hF; rw [if_pos e] at hF; omega
          unfold fitsA at hF
          rw [if_neg h0, if_neg h8] at hF
          by_cases hl : lenA l.length (kSize k) (kSize k) = 0
          · rw [if_neg (by simp [hl]), if_pos hE] at hF; omega
          · rw [if_pos hl] at hF; exact hl hF
      simp [h8, hF, hE]
    · simp [h8, hF]
theorem rnum_any (k a lo hi : Int) (w : World) (A : Option Addr) (n c : Nat) (l : List Int) (h : Byt w w.heap.size A n c l) : Calls Try.prog 104 #[.agg #[.int .i64 k, .int .i64 a, .int .i64 lo, .int .i64 hi], .slice A n c] w fun e w' => e = .returned (.tuple #[.int .i64 (numN k a lo hi l), .bool (numB k a lo hi l)]) ∧ Below w.heap.size w w' := by
  have hf := fun (w' : World) (hb : Below w.heap.size w w') => rfits_any k a lo hi w' A n c l (h.low hb)
  have hg := fun (w' : World) (hb : Below w.heap.size w w') => rget_any k w' A n c l (h.low hb)
  unfold GetPost at hg
  have HX0 := Lib.hid (Bx4.start w k a lo hi 75)
  have HG := Lib.hid hg
  obtain ⟨e1, e2⟩ := num_parts k a lo hi l
  rw [e1, e2]
  clear e1 e2
  generalize fitsA k a lo hi l = F at hf ⊢
  have HF := Lib.hid hf
  generalize getE k l = E at HG ⊢
  generalize getN k l = N at HG ⊢
  clear h hf hg
  by_cases h8 : k = 8
  · subst h8
    rw [if_pos (.inl rfl), decide_eq_false (by simp)]
    go_enter Try.func104, Try.ntmps104
    go_wp2_with fail
    go_ret2
    exact ⟨rfl, HX0.out.blw⟩
  have hd8 : (k == 8) = false := by simp [h8]
  by_cases h0 : F = 0
  · subst h0
    rw [if_neg (by simp [h8]), decide_eq_true (by simp [h8])]
    go_enter Try.func104, Try.ntmps104
    go_wp2_with (first | (go_at_call 72; refine (HF.out _ HX0.out.blw).mono ?_; rintro e w1 ⟨rfl, hb1⟩; have HX1 := Lib.hid (HX0.out.step hb1); obtain ⟨c0, c1, c2, c3, -, -⟩ := HX1.out) | (go_at_call 107; refine (HG.out _ HX1.out.blw).mono ?_; rintro e w4 ⟨rfl, hb4⟩; have HX4 := Lib.hid (HX1.out.step hb4)))
    go_ret2
    exact ⟨rfl, HX4.out.blw⟩
  · rw [if_pos (.inr h0), decide_eq_false (by simp [h0])]
    have hd : (F != 0) = true := by simp [h0]
    clear h0
    go_enter Try.func104, Try.ntmps104
    go_wp2_with (go_at_call 72; refine (HF.out _ HX0.out.blw).mono ?_; rintro e w1 ⟨rfl, hb1⟩; have HX1 := Lib.hid (HX0.out.step hb1); obtain ⟨c0, c1, c2, c3, -, -⟩ := HX1.out)
    go_ret2
    exact ⟨rfl, HX1.out.blw⟩
end Go.Proofs.Ytgaoplbocjadaaa
namespace Go.Proofs.Ytgaoplbocjadaaa
open Go.RowKit
set_option linter.unusedSimpArgs false
set_option linter.unusedVariables false
def bytA (k a lo hi n : Int) : List Int := if mayB k a lo hi = true ∧ ¬ k = 8 ∧ lo ≤ n ∧ n ≤ hi then putL k n else []
def bytE (k a lo hi n : Int) : Int := if mayB k a lo hi = false ∨ k = 8 then 2 else if n < lo ∨ hi < n then 14 else 0
def BytPost (k a lo hi n : Int) (W : World) (e : Ending) (w' : World) : Prop :=
  ∃ A c, e = .returned (.tuple #[.slice A (bytA k a lo hi n).length c, .int .i64 (bytE k a lo hi n)]) ∧ Byt w' w'.heap.size A (bytA k a lo hi n).length c (bytA k a lo hi n) ∧ Below W.heap.size W w'
theorem byt_no {k a lo hi n x : Int} {W w' : World} (h : ¬ (mayB k a lo hi = true ∧ ¬ k = 8 ∧ lo ≤ n ∧ n ≤ hi)) (he : bytE k a lo hi n = x) (hb : Below W.heap.size W w') : BytPost k a lo hi n W (.returned (.tuple #[.slice none 0 0, .int .i64 x])) w' := by
  have e : bytA k a lo hi n = [] := if_neg h
  exact ⟨none, 0, by rw [e, he]; rfl, by rw [e]; exact Byt.nil_ _ _, hb⟩
theorem byt_fit {k a lo hi n : Int} (h : mayB k a lo hi = true) (h8 : ¬ k = 8) (h1 : lo ≤ n) (h2 : n ≤ hi) : fitB k n = true := by
  have hm := of_decide_eq_true h
  exact (fit_iff k n).2 (by omega)
theorem byt_yes {k a lo hi n : Int} (h : mayB k a lo hi = true) (h8 : ¬ k = 8) (h1 : lo ≤ n) (h2 : n ≤ hi) : putA k n = bytA k a lo hi n ∧ putE k n = bytE k a lo hi n := by
  have hf := byt_fit h h8 h1 h2
  unfold putA putE bytA bytE
  rw [if_pos hf, if_pos hf, if_pos ⟨h, h8, h1, h2⟩, if_neg (by simp [h, h8]), if_neg (by omega)]
  exact ⟨rfl, rfl⟩

theorem vbytes_any (k a lo hi n : Int) (w : World) : Calls Try.prog 78 #[.agg #[.int .i64 k, .int .i64 a, .int .i64 lo, .int .i64 hi], .int .i64 n] w (BytPost k a lo hi n w) := by
  have hm := fun w => may_any k a lo hi w
  have HX0 := Lib.hid (Bx4.start w k a lo hi 75)
  by_cases h0 : mayB k a lo hi = false
  · have HN := Lib.hid (fun (x : World) (hb : Below w.heap.size w x) => byt_no (n := n) (x := 2) (W := w) (w' := x) (by simp [h0] : ¬ (mayB k a lo hi = true ∧ ¬ k = 8 ∧ lo ≤ n ∧ n ≤ hi)) (if_pos (.inl h0)) hb)
    rw [h0] at hm
    have HM := Lib.hid hm
    clear hm h0
    go_enter Try.func78, Try.ntmps78
    go_wp2_with (go_at_call 92; refine (HM.out _).mono ?_; rintro e w1 ⟨rfl, hb1⟩; have HX1 := Lib.hid (HX0.out.step hb1); obtain ⟨c0, c1, c2, c3, -, -⟩ := HX1.out)
    go_ret2
    exact HN.out _ HX1.out.blw
  have h1 : mayB k a lo hi = true := by simpa using h0
  by_cases h8 : k = 8
  · have HN := Lib.hid (fun (x : World) (hb : Below w.heap.size w x) => byt_no (n := n) (x := 2) (W := w) (w' := x) (by simp [h8] : ¬ (mayB k a lo hi = true ∧ ¬ k = 8 ∧ lo ≤ n ∧ n ≤ hi)) (if_pos (.inr h8)) hb)
    subst h8
    rw [h1] at hm
    have HM := Lib.hid hm
    clear hm h0 h1
    go_enter Try.func78, Try.ntmps78
    go_wp2_with (go_at_call 92; refine (HM.out _).mono ?_; rintro e w1 ⟨rfl, hb1⟩; have HX1 := Lib.hid (HX0.out.step hb1); obtain ⟨c0, c1, c2, c3, -, -⟩ := HX1.out)
    go_ret2
    exact HN.out _ HX1.out.blw
  have hd8 : (k == 8) = false := by simp [h8]
  by_cases h2 : lo ≤ n ∧ n ≤ hi
  · obtain ⟨h2, h3⟩ := h2
    obtain ⟨e1, e2⟩ := byt_yes h1 h8 h2 h3
    have hp := fun w => put_any k n w
    unfold PutPost at hp
    rw [e1, e2] at hp
    unfold BytPost
    generalize bytA k a lo hi n = L at hp ⊢
    generalize bytE k a lo hi n = E at hp ⊢
    rw [h1] at hm
    have HM := Lib.hid hm
    have HP := Lib.hid hp
    clear hm h0 h1 hp e1 e2
    go_enter Try.func78, Try.ntmps78
    go_wp2_with (first | (go_at_call 92; refine (HM.out _).mono ?_; rintro e w1 ⟨rfl, hb1⟩; have HX1 := Lib.hid (HX0.out.step hb1); obtain ⟨c0, c1, c2, c3, -, -⟩ := HX1.out) | (go_at_call 113; refine (HP.out _).mono ?_; rintro e w4 ⟨A, c, rfl, hB, hb4⟩; have HX4 := Lib.hid (HX1.out.step hb4)))
    go_ret2
    exact ⟨_, _, rfl, hB, HX4.out.blw⟩
  · have HN := Lib.hid (fun (x : World) (hb : Below w.heap.size w x) => byt_no (n := n) (x := 14) (W := w) (w' := x) (by omega : ¬ (mayB k a lo hi = true ∧ ¬ k = 8 ∧ lo ≤ n ∧ n ≤ hi)) (by unfold bytE; rw [if_neg (by simp [h1, h8]), if_pos (by omega)]) hb)
    rw [h1] at hm
    have HM := Lib.hid hm
    have h3 : n < lo ∨ (¬ n < lo ∧ hi < n) := by omega
    clear hm h0 h1 h2
    rcases h3 with h3 | ⟨h3, h4⟩
    all_goals
      go_enter Try.func78, Try.ntmps78
      go_wp2_with (go_at_call 92; refine (HM.out _).mono ?_; rintro e w1 ⟨rfl, hb1⟩; have HX1 := Lib.hid (HX0.out.step hb1); obtain ⟨c0, c1, c2, c3, -, -⟩ := HX1.out)
      go_ret2
      exact HN.out _ HX1.out.blw

/-! ### The first value -/
def firN (lo hi : Int) : Int := if 0 < lo then lo else if hi < 0 then hi else 0
def firL (k a lo hi : Int) : List Int := if mayB k a lo hi = false then [] else if k = 8 then List.replicate lo.toNat 0 else putL k (firN lo hi)
theorem firN_in {lo hi : Int} (h : lo ≤ hi) : lo ≤ firN lo hi ∧ firN lo hi ≤ hi := by
  unfold firN
  split
  · omega
  · split <;> omega
def FirPost (k a lo hi : Int) (W : World) (e : Ending) (w' : World) : Prop :=
  ∃ A c, e = .returned (.slice A (firL k a lo hi).length c) ∧ Byt w' w'.heap.size A (firL k a lo hi).length c (firL k a lo hi) ∧ Below W.heap.size W w'
theorem make_row (n : Nat) (hn : n ≤ 281474976710656) (w : World) : (Instr.makeSlice 58 (.int .i64 (n : Int)) (.int .i64 (n : Int))).run Try.prog w = .ok (.slice (some ⟨w.heap.size, 0, none⟩) n n) (w.alloc (.cells (madeCells #[.int .u8 0] n) 5)) :=
  run_make_row' _ _ _ _ Try.underlying58 byte_info rfl .i64 .i64 n (by omega) (by omega) w
theorem made_zero (n : Nat) : madeCells #[Value.int .u8 0] n = ((List.replicate n (0 : Int)).map (Value.int .u8)).toArray := by
  apply Array.ext'
  have e : (fun x : Nat => [Value.int IntKind.u8 0][x % 1]?.getD default) = fun _ => Value.int IntKind.u8 0 := by funext x; simp [Nat.mod_one]
  simp [madeCells]
  rw [e, List.map_const', List.length_range]
theorem byt_zero (w : World) (n : Nat) (hn : n ≤ 64) : Byt (w.alloc (.cells (madeCells #[.int .u8 0] n) 5)) (w.alloc (.cells (madeCells #[.int .u8 0] n) 5)).heap.size (some ⟨w.heap.size, 0, none⟩) n n (List.replicate n 0) := by
  rw [made_zero]
  have h := Byt.new w 5 (List.replicate n (0 : Int)) (fun x hx => by rw [List.eq_of_mem_replicate hx]; omega) (by simp only [List.length_replicate, maxLen]; omega)
  rw [List.length_replicate] at h
  exact h.more (by simp)
theorem fir_text {k a lo hi : Int} {m : Nat} (h : mayB k a lo hi = true) (h8 : k = 8) (hm : lo = m) : firL k a lo hi = List.replicate m 0 ∧ m ≤ 64 := by
  have h' := of_decide_eq_true h
  unfold firL
  rw [if_neg (by simp [h]), if_pos h8]
  subst hm
  exact ⟨rfl, by omega⟩
theorem fir_num {k a lo hi : Int} (h : mayB k a lo hi = true) (h8 : ¬ k = 8) : firL k a lo hi = bytA k a lo hi (firN lo hi) ∧ putA k (firN lo hi) = firL k a lo hi ∧ lo ≤ firN lo hi ∧ firN lo hi ≤ hi := by
  have h' := of_decide_eq_true h
  obtain ⟨h1, h2⟩ := firN_in (lo := lo) (hi := hi) (by omega)
  have e : firL k a lo hi = bytA k a lo hi (firN lo hi) := by
    unfold firL bytA
    rw [if_neg (by simp [h]), if_neg h8, if_pos ⟨h, h8, h1, h2⟩]
  exact ⟨e, by rw [e]; exact (byt_yes h h8 h1 h2).1, h1, h2⟩

theorem vfirst_any (k a lo hi : Int) (w : World) : Calls Try.prog 93 #[.agg #[.int .i64 k, .int .i64 a, .int .i64 lo, .int .i64 hi]] w (FirPost k a lo hi w) := by
  have hm := fun w => may_any k a lo hi w
  have hy := fun n w => vbytes_any k a lo hi n w
  unfold BytPost at hy
  have HX0 := Lib.hid (Bx4.start w k a lo hi 75)
  unfold FirPost
  by_cases h0 : mayB k a lo hi = false
  · have e1 : firL k a lo hi = [] := if_pos h0
    rw [e1]
    have e2 : ∀ n, bytA k a lo hi n = [] := fun n => if_neg (by simp [h0])
    simp only [e2] at hy
    rw [h0] at hm
    have HM := Lib.hid hm
    have HY := Lib.hid hy
    clear hm hy e1 e2 h0
    go_enter Try.func93, Try.ntmps93
    go_wp2_with (first | (go_at_call 92; refine (HM.out _).mono ?_; rintro e w1 ⟨rfl, hb1⟩; have HX1 := Lib.hid (HX0.out.step hb1); obtain ⟨c0, c1, c2, c3, -, -⟩ := HX1.out) | (go_at_call 78; refine (HY.out _ _).mono ?_; rintro e w4 ⟨A, c, rfl, hB, hb4⟩; have HX4 := Lib.hid (HX1.out.step hb4)))
    all_goals
      go_ret
      exact ⟨_, _, rfl, hB, HX4.out.blw⟩
  have h1 : mayB k a lo hi = true := by simpa using h0
  by_cases h8 : k = 8
  · have h' := of_decide_eq_true h1
    obtain ⟨m, rfl⟩ := Int.eq_ofNat_of_zero_le (show 0 ≤ lo by omega)
    obtain ⟨e1, hm64⟩ := fir_text h1 h8 rfl
    rw [e1, List.length_replicate]
    rw [h1] at hm
    have HM := Lib.hid hm
    have hmk := make_row m (by omega)
    have HZ := Lib.hid (fun w => byt_zero w m hm64)
    clear hm hy e1 h0 h1 h'
    subst h8
    go_enter Try.func93, Try.ntmps93
    go_wp2_with (go_at_call 92; refine (HM.out _).mono ?_; rintro e w1 ⟨rfl, hb1⟩; have HX1 := Lib.hid (HX0.out.step hb1); obtain ⟨c0, c1, c2, c3, -, -⟩ := HX1.out)
    go_ret
    exact ⟨_, _, rfl, HZ.out _, HX1.out.blw.alloc HX1.out.blw.size _⟩
  · have hd8 : (k == 8) = false := by simp [h8]
    obtain ⟨e1, -, h2, h3⟩ := fir_num h1 h8
    have hy' := hy (firN lo hi)
    rw [← e1] at hy'
    rw [h1] at hm
    have HM := Lib.hid hm
    have h' : lo ≤ hi := by have := of_decide_eq_true h1; omega
    generalize bytE k a lo hi (firN lo hi) = E at hy'
    generalize firL k a lo hi = L at hy' ⊢
    have hyn : ∀ n, n = firN lo hi → ∀ w, Calls Try.prog 78 #[.agg #[.int .i64 k, .int .i64 a, .int .i64 lo, .int .i64 hi], .int .i64 n] w fun e w' => ∃ A c, e = .returned (.tuple #[.slice A L.length c, .int .i64 E]) ∧ Byt w' w'.heap.size A L.length c L ∧ Below w.heap.size w w' := fun n e w => by subst e; exact hy' w
    have HY := Lib.hid hyn
    clear hm hy e1 h0 h1 h2 h3 hy' hyn
    go_enter Try.func93, Try.ntmps93
    go_wp2_with (first | (go_at_call 92; refine (HM.out _).mono ?_; rintro e w1 ⟨rfl, hb1⟩; have HX1 := Lib.hid (HX0.out.step hb1); obtain ⟨c0, c1, c2, c3, -, -⟩ := HX1.out) | (go_at_call 78; refine (HY.out _ (by unfold firN; repeat' split <;> omega) _).mono ?_; rintro e w4 ⟨A, c, rfl, hB, hb4⟩; have HX4 := Lib.hid (HX1.out.step hb4)))
    all_goals
      go_ret
      exact ⟨_, _, rfl, hB, HX4.out.blw⟩
end Go.Proofs.Ytgaoplbocjadaaa
namespace Go.Proofs.Ytgaoplbocjadaaa
open Go.RowKit
set_option linter.unusedSimpArgs false
set_option linter.unusedVariables false
theorem Bx4.stepB {w w1 w2 : World} {k a lo hi : Int} {B : Nat} (h : Bx4 w k a lo hi w1) (hb : Below B w1 w2) (hB : w.heap.size < B) : Bx4 w k a lo hi w2 := by
  have hc := fun o => hb.cell (p := ⟨w.heap.size, o, none⟩) hB
  exact ⟨(hc _).trans h.c0, (hc _).trans h.c1, (hc _).trans h.c2, (hc _).trans h.c3, h.blw.trans (hb.mono (Nat.le_of_lt hB)), Nat.lt_of_lt_of_le h.lt hb.size⟩
theorem own_keep {w w' : World} {base e s n : Nat} {v : Value} {xs : List Value} (h : w.ownsRow base e s v n xs) (hb : Below w.heap.size w w') : w'.ownsRow base e s v n xs :=
  h.kept (row := none) ⟨hb.os, hb.tape, hb.output, hb.size, fun i hi _ => hb.block i hi⟩ (by
    rcases h.2 with ⟨rfl, _⟩ | ⟨k, cap, cur, rfl, _⟩
    · exact .inl rfl
    · exact .inr (by simp [Value.ownBlock]))
theorem own_nil (W : World) (B S : Nat) (hB : B ≤ W.heap.size) (hS : W.heap.size = S) : (W.alloc (.cells #[] 5)).ownsRow B 5 1 (.slice (some ⟨S, 0, none⟩) 0 0) 0 (([] : List Int).map (Value.int .u8)) := by
  subst hS
  have h : (W.alloc (.cells #[] 5)).ownsRow W.heap.size 5 1 (.slice (some ⟨W.heap.size, 0, none⟩) 0 0) 0 (([] : List Int).map (Value.int .u8)) := World.ownsRow_lit W #[] 0 (Nat.le_refl _) (by simp [maxLen]) rfl
  refine ⟨h.1, ?_⟩
  rcases h.2 with h2 | ⟨g, cap, cur, e, hb, rest⟩
  · exact .inl h2
  · exact .inr ⟨g, cap, cur, e, Nat.le_trans hB hb, rest⟩
theorem byt_own {w : World} {B n : Nat} {v : Value} {l : List Int} (h : w.ownsRow B 5 1 v n (l.map (Value.int .u8))) (hr : ∀ x ∈ l, 0 ≤ x ∧ x ≤ 255) : ∃ A c, v = .slice A n c ∧ Byt w w.heap.size A n c l := by
  obtain ⟨A, c, e, hB, _⟩ := Byt.of_own h hr
  exact ⟨A, c, e, hB⟩
theorem rep_range (m : Nat) : ∀ x ∈ List.replicate m (0 : Int), 0 ≤ x ∧ x ≤ 255 := fun x hx => by rw [List.eq_of_mem_replicate hx]; omega

set_option maxHeartbeats 1000000 in
theorem rfirst_any (k a lo hi : Int) (w : World) : Calls Try.prog 90 #[.agg #[.int .i64 k, .int .i64 a, .int .i64 lo, .int .i64 hi]] w (FirPost k a lo hi w) := by
  have hm := fun w => rmay_any k a lo hi w
  have HX0 := Lib.hid (Bx4.start w k a lo hi 75)
  have hx1 := (Bx4.start w k a lo hi 75).step ((Below.refl _ _).alloc (Nat.le_refl _) (.cells #[] 5))
  have ho1 := own_nil (w.alloc (.cells #[.int .i64 k, .int .i64 a, .int .i64 lo, .int .i64 hi] 75)) (w.heap.size + 1) (w.heap.size + 1) (by simp) (by simp)
  have HX1 := Lib.hid hx1
  have HO1 := Lib.hid ho1
  clear hx1 ho1
  unfold FirPost
  by_cases h0 : mayB k a lo hi = false
  · have e1 : firL k a lo hi = [] := if_pos h0
    rw [e1]
    rw [h0] at hm
    have HM := Lib.hid hm
    clear hm e1 h0
    go_enter Try.func90, Try.ntmps90
    go_wp2_with (go_at_call 89; refine (HM.out _).mono ?_; rintro e w1 ⟨rfl, hb1⟩; have HX2 := Lib.hid (HX1.out.step hb1); have HO2 := Lib.hid (own_keep HO1.out hb1); obtain ⟨c0, c1, c2, c3, -, -⟩ := HX2.out)
    go_ret
    obtain ⟨A', c', e', hB'⟩ := byt_own HO2.out (by simp)
    cases e'
    exact ⟨_, _, rfl, hB', HX2.out.blw⟩
  have h1 : mayB k a lo hi = true := by simpa using h0
  rw [h1] at hm
  have HM := Lib.hid hm
  by_cases h8 : k = 8
  · have h' := of_decide_eq_true h1
    obtain ⟨m, rfl⟩ := Int.eq_ofNat_of_zero_le (show 0 ≤ lo by omega)
    obtain ⟨e1, hm64⟩ := fir_text h1 h8 rfl
    rw [e1, List.length_replicate]
    clear hm e1 h0 h1 h'
    subst h8
    go_enter Try.func90, Try.ntmps90
    go_wp2_with (go_at_call 89; refine (HM.out _).mono ?_; rintro e w1 ⟨rfl, hb1⟩; have HX2 := Lib.hid (HX1.out.step hb1); have HO2 := Lib.hid (own_keep HO1.out hb1); obtain ⟨c0, c1, c2, c3, -, -⟩ := HX2.out)
    clear HX0 HX1 HO1
    go_loopw [3, 4] (fun q i wr => ∃ j : Nat, j ≤ m ∧ i = .int .i64 j ∧ Hid (wr.ownsRow (w.heap.size + 1) 5 1 q j ((List.replicate j (0 : Int)).map (Value.int .u8))) ∧ Hid (Bx4 w 8 a m hi wr)) (fun _ i _ => m - (intOf i).toNat)
    case atStart => exact ⟨0, Nat.zero_le _, rfl, HO2, HX2⟩
    case round =>
      clear HO2 HX2 c0 c1 c2 c3
      obtain ⟨j, hj, rfl, HO, HX⟩ := hrel
      obtain ⟨c0, c1, c2, c3, -, -⟩ := HX.out
      by_cases hlt : j < m
      · have hown := HO.out
        have hsz : w.heap.size + 1 ≤ wr.heap.size := HX.out.lt
        go_wp2_with (at_builtin; refine wpList_byte rfl (.tmp 22) (.tmp 23) rfl Try.underlying58 byte_info rfl hown rfl (by omega) hsz ?_; intro v' w' hown' hbel')
        have HO3 : Hid (w'.ownsRow (w.heap.size + 1) 5 1 v' (j + 1) ((List.replicate (j + 1) (0 : Int)).map (Value.int .u8))) := by
          rw [List.replicate_succ']
          exact Lib.hid hown'
        have HX3 := Lib.hid (HX.out.stepB hbel' (by omega))
        go_roundw
        case rel => exact ⟨j + 1, by omega, by go_num, HO3, HX3⟩
        case measure => simp [intOf]; omega
      · obtain rfl : j = m := by omega
        go_wp2
        obtain ⟨A', c', e', hB'⟩ := byt_own HO.out (rep_range j)
        subst e'
        go_ret
        exact ⟨_, _, rfl, hB', HX.out.blw⟩
  · have hd8 : (k == 8) = false := by simp [h8]
    obtain ⟨e1, e2, h2, h3⟩ := fir_num h1 h8
    have hp := fun w => rput_any k (firN lo hi) w
    unfold PutPost at hp
    rw [e2] at hp
    have h' : lo ≤ hi := by have := of_decide_eq_true h1; omega
    generalize putE k (firN lo hi) = E at hp
    generalize firL k a lo hi = L at hp ⊢
    have hpn : ∀ n, n = firN lo hi → ∀ w, Calls Try.prog 80 #[.int .i64 k, .int .i64 n] w fun e w' => ∃ A c, e = .returned (.tuple #[.slice A L.length c, .int .i64 E]) ∧ Byt w' w'.heap.size A L.length c L ∧ Below w.heap.size w w' := fun n e w => by subst e; exact hp w
    have HP := Lib.hid hpn
    clear hm e1 e2 h0 h1 h2 h3 hp hpn
    go_enter Try.func90, Try.ntmps90
    go_wp2_with (first | (go_at_call 89; refine (HM.out _).mono ?_; rintro e w1 ⟨rfl, hb1⟩; have HX2 := Lib.hid (HX1.out.step hb1); obtain ⟨c0, c1, c2, c3, -, -⟩ := HX2.out) | (go_at_call 80; refine (HP.out _ (by unfold firN; repeat' split <;> omega) _).mono ?_; rintro e w4 ⟨A, c, rfl, hB, hb4⟩; have HX4 := Lib.hid (HX2.out.step hb4)))
    all_goals
      go_ret
      exact ⟨_, _, rfl, hB, HX4.out.blw⟩

theorem live_fir : firL 3 3 10 20 = [10, 0] := by decide
theorem live_ft1 : fitsA 3 3 10 20 [21, 0] = 101253169 := by decide
theorem live_ft2 : fitsA 3 3 10 20 [15] = 101122067 := by decide
theorem live_kn : decide ((84148228 : Int) ∈ reasL) = true := by decide
theorem live_str : (strOfNums [10, 0]).toList = [10, 0] := by rw [ByteArray.toList_eq]; decide
end Go.Proofs.Ytgaoplbocjadaaa
namespace Go.Proofs.Ytgaoplbocjadaaa
open Go.RowKit
set_option linter.unusedSimpArgs false
set_option linter.unusedVariables false
theorem Bx4.cells {w w1 : World} {k a lo hi : Int} (h : Bx4 w k a lo hi w1) : w1.cell? ⟨w.heap.size, 0, none⟩ = some (.int .i64 k) ∧ w1.cell? ⟨w.heap.size, 1, none⟩ = some (.int .i64 a) ∧ w1.cell? ⟨w.heap.size, 2, none⟩ = some (.int .i64 lo) ∧ w1.cell? ⟨w.heap.size, 3, none⟩ = some (.int .i64 hi) := ⟨h.c0, h.c1, h.c2, h.c3⟩
theorem get_put {k n : Int} (h : fitB k n = true) : getN k (putA k n) = n ∧ getE k (putA k n) = 0 := by
  have ha : putA k n = putL k n := by simp [putA, h]
  have hl : kSize k = (putL k n).length := by rw [putL_len]; have := k_bounds k; omega
  have hf := h
  simp only [fitB, decide_eq_true_eq] at hf
  have hv : valL k (putL k n) = n := by
    unfold valL
    rw [← Int.toNat_natCast (putL k n).length, ← hl]
    rcases kind_cases k with rfl | rfl | rfl | rfl | rfl | rfl | rfl | hk
    case inr.inr.inr.inr.inr.inr.inr => have := (k_other hk).1; omega
    all_goals
      first | rw [putL1 rfl] | rw [putL2 rfl] | rw [putL4 rfl]
      simp only [numL, kSize, kLow, kHigh] at hf ⊢
      simp at hf ⊢
      split <;> omega
  rw [ha]
  unfold getN getE
  rw [hv, if_pos ⟨hf.1, hl, h⟩, if_neg (by omega), if_neg (by omega), if_pos h]
  exact ⟨rfl, rfl⟩
theorem fits_put {k a lo hi n : Int} (h : mayB k a lo hi = true) (h8 : ¬ k = 8) (h1 : lo ≤ n) (h2 : n ≤ hi) : fitsA k a lo hi (putA k n) = 0 ∧ getN k (putA k n) = n ∧ getE k (putA k n) = 0 := by
  have hf := byt_fit h h8 h1 h2
  obtain ⟨e1, e2⟩ := get_put hf
  have hl : ((putA k n).length : Int) = kSize k := by
    have : putA k n = putL k n := by simp [putA, hf]
    rw [this, putL_len]; have := k_bounds k; omega
  have hL : lenA ((putA k n).length : Int) (kSize k) (kSize k) = 0 := by unfold lenA; rw [hl, if_neg (by omega), if_neg (by omega)]
  unfold fitsA
  rw [if_neg (by simp [h]), if_neg h8, hL, if_neg (by simp), e1, e2, if_neg (by simp), if_neg (by omega), if_neg (by omega)]
  exact ⟨rfl, rfl, rfl⟩
theorem fir_fits (k a lo hi : Int) : (fitsA k a lo hi (firL k a lo hi) == 0) = mayB k a lo hi := by
  cases h : mayB k a lo hi with
  | false =>
    have e : fitsA k a lo hi (firL k a lo hi) = 134217728 := if_pos h
    rw [e]; rfl
  | true =>
    by_cases h8 : k = 8
    · subst h8
      have h' := of_decide_eq_true h
      obtain ⟨m, rfl⟩ := Int.eq_ofNat_of_zero_le (show 0 ≤ lo by omega)
      obtain ⟨e, _⟩ := fir_text h rfl rfl
      rw [e]
      have e2 : fitsA 8 a m hi (List.replicate m 0) = lenA m m hi := by unfold fitsA; rw [if_neg (by simp [h]), if_pos rfl, List.length_replicate]
      rw [e2]
      unfold lenA
      rw [if_neg (by omega), if_neg (by omega)]
      rfl
    · obtain ⟨_, e, h1, h2⟩ := fir_num h h8
      rw [← e, (fits_put h h8 h1 h2).1]
      rfl

end Go.Proofs.Ytgaoplbocjadaaa