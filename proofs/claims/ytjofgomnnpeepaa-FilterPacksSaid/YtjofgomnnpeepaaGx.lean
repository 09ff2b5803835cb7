/- The document's pairs, put together. -/
import Derived.Test.YtjofgomnnpeepaaGu
namespace Go.Proofs.Ytjofgomnnpeepaa
open Go.RowKit Go.Sort

theorem or_add_nat : ∀ (x : Fin 64) (y : Fin 32) (i : Fin 11), (32 * x.val + y.val).testBit i.val = false → (32 * x.val + y.val) ||| 2 ^ i.val = 32 * x.val + y.val + 2 ^ i.val := by decide +kernel
theorem or_add {k i : Nat} (hk : k < 2048) (hi : i < 11) (h : k.testBit i = false) : k ||| 2 ^ i = k + 2 ^ i := by
  have := or_add_nat ⟨k / 32, by omega⟩ ⟨k % 32, by omega⟩ ⟨i, hi⟩
  simp only [show 32 * (k / 32) + k % 32 = k by omega] at this
  exact this h
/-- Two codes are unlike in just the bit n. -/
def Diff (a b n : Nat) : Prop := n < 11 ∧ ∀ j, j < 11 → (a.testBit j = b.testBit j ↔ j ≠ n)
theorem high_bit {x j : Nat} (hx : x < 2048) (hj : ¬ j < 11) : x.testBit j = false :=
  Nat.testBit_lt_two_pow (Nat.lt_of_lt_of_le hx (Nat.pow_le_pow_right (n := 2) (i := 11) (by omega) (by omega)))
/-- Every code has only bits of its mask. -/
def Und (M : Nat → Int) : Prop := ∀ a k : Nat, a < 2048 → M a = k → ∀ j, a.testBit j = true → k.testBit j = true
theorem diff_low {a b n : Nat} (ha : a < 2048) (hb : b < 2048) (hlt : a < b) (h : Diff a b n) : a.testBit n = false ∧ b = a ||| 2 ^ n := by
  have hne : a.testBit n ≠ b.testBit n := fun e => (h.2 n h.1).1 e rfl
  have hother : ∀ j, j ≠ n → a.testBit j = b.testBit j := fun j hj => by
    by_cases h11 : j < 11
    · exact (h.2 j h11).2 hj
    · rw [high_bit ha h11, high_bit hb h11]
  have h0 : a.testBit n = false := by
    cases hx : a.testBit n with
    | false => rfl
    | true =>
      have hy : b.testBit n = false := by
        cases hy : b.testBit n with
        | false => rfl
        | true => exact absurd (hx.trans hy.symm) hne
      have : a = b ||| 2 ^ n := Nat.eq_of_testBit_eq fun j => by
        rw [or_testBit]
        by_cases e : n = j
        · subst e; simp [hx]
        · rw [hother j (fun e2 => e e2.symm)]; simp [e]
      have : b ≤ a := by rw [this]; exact Nat.left_le_or
      omega
  refine ⟨h0, Nat.eq_of_testBit_eq fun j => ?_⟩
  rw [or_testBit]
  by_cases e : n = j
  · subst e
    have : b.testBit n = true := by
      cases hy : b.testBit n with
      | true => rfl
      | false => exact absurd (h0.trans hy.symm) hne
    simp [this]
  · rw [hother j (fun e2 => e e2.symm)]; simp [e]
theorem diff_or {a n : Nat} (hn : n < 11) (h0 : a.testBit n = false) : Diff a (a ||| 2 ^ n) n := by
  refine ⟨hn, fun j _ => ?_⟩
  rw [or_testBit]
  by_cases e : n = j
  · subst e; simp [h0]
  · have : ¬ j = n := fun e2 => e e2.symm
    simp [e, this]
theorem good_of {M : Nat → Int} (hU : Und M) {a b n k : Nat} (ha : a < 2048) (hb : b < 2048) (hlt : a < b) (hk : M a = k) (hkb : M b = k) (h : Diff a b n) : Good M a n := by
  obtain ⟨h0, rfl⟩ := diff_low ha hb hlt h
  refine ⟨k, hk, hU _ k hb hkb n ?_, h0, hkb⟩
  rw [or_testBit]; simp
theorem und_start (l : List Int) (j : Nat) : Und (m0 l j) := fun a k ha hk i hi => by
  have : k = 2047 := by unfold m0 at hk; split at hk <;> omega
  subst this
  have h11 : i < 11 := Classical.byContradiction fun h => by rw [high_bit ha h] at hi; cases hi
  rw [show (2047 : Nat) = 2 ^ 11 - 1 from rfl, Nat.testBit_two_pow_sub_one]
  simp [h11]
theorem und_step {M : Nat → Int} {a i : Nat} (hF : Fit M) (hU : Und M) (h : First M a i) : Und (nxt M a i) := fun b k hb hk j hj => by
  obtain ⟨k0, hk0, hbit, hab, _⟩ := h.2.2.1
  rcases (nxt_mask h hk0 b k).1 hk with ⟨rfl, rfl⟩ | ⟨_, _, h3⟩
  · have hs := good_small hF h.1 hk0
    rw [sub_testBit hs h.2.1 hbit, hU b k0 hb hk0 j hj]
    have : j ≠ i := fun e => by subst e; rw [hab] at hj; cases hj
    simp [this]
  · exact hU b k hb h3 j hj

/-! ### The list of codes, and its places -/
theorem codes_at {M : Nat → Int} {t : Nat} (h : t < (codes M 2048).length) : (codes M 2048).getD t 0 < 2048 ∧ M ((codes M 2048).getD t 0) ≠ -1 := by
  have := codes_mem (M := M) (j := 2048) (a := (codes M 2048).getD t 0)
  refine this.1 ?_
  rw [List.getD_eq_getElem?_getD, List.getElem?_eq_getElem h]
  exact List.getElem_mem h
theorem codes_lt {M : Nat → Int} {s t : Nat} (hs : s < t) (ht : t < (codes M 2048).length) : (codes M 2048).getD s 0 < (codes M 2048).getD t 0 := by
  have hp : (codes M 2048).Pairwise (· < ·) := List.Pairwise.filter _ List.pairwise_lt_range
  rw [List.getD_eq_getElem?_getD, List.getD_eq_getElem?_getD, List.getElem?_eq_getElem ht, List.getElem?_eq_getElem (by omega)]
  exact List.pairwise_iff_getElem.1 hp s t _ _ hs
theorem codes_find {M : Nat → Int} {a : Nat} (ha : a < 2048) (h : M a ≠ -1) : ∃ t, t < (codes M 2048).length ∧ (codes M 2048).getD t 0 = a := by
  have := (codes_mem (M := M) (j := 2048)).2 ⟨ha, h⟩
  obtain ⟨t, ht, e⟩ := List.getElem_of_mem this
  exact ⟨t, ht, by rw [List.getD_eq_getElem?_getD, List.getElem?_eq_getElem ht]; exact e⟩
/-- A pair at two places. -/
def PairAt (M : Nat → Int) (s t : Nat) : Prop := M ((codes M 2048).getD s 0) = M ((codes M 2048).getD t 0) ∧ ∃ n, Diff ((codes M 2048).getD s 0) ((codes M 2048).getD t 0) n
theorem pair_of_good {M : Nat → Int} {a n : Nat} (ha : a < 2048) (hn : n < 11) (h : Good M a n) : ∃ s t, s < t ∧ t < (codes M 2048).length ∧ PairAt M s t ∧ (codes M 2048).getD s 0 = a ∧ (codes M 2048).getD t 0 = a ||| 2 ^ n := by
  obtain ⟨k, hk, hb, hab, hr⟩ := h
  have hr2 := second_lt ha hn
  obtain ⟨s, hs, es⟩ := codes_find ha (M := M) (by rw [hk]; omega)
  obtain ⟨t, ht, et⟩ := codes_find hr2 (M := M) (by rw [hr]; omega)
  have hne := second_ne hab
  have hle : a ≤ a ||| 2 ^ n := Nat.left_le_or
  have hst : s < t := by
    rcases Nat.lt_trichotomy s t with h | h | h
    · exact h
    · subst h; rw [es] at et; exact absurd et.symm hne
    · have := codes_lt h hs; rw [es, et] at this; omega
  exact ⟨s, t, hst, ht, ⟨by rw [es, et, hk, hr], n, by rw [es, et]; exact diff_or hn hab⟩, es, et⟩
theorem noPair_places {M : Nat → Int} (h : ∀ s t, s < t → t < (codes M 2048).length → ¬ PairAt M s t) : NoPair M := fun b j hb hj hg => by
  obtain ⟨s, t, h1, h2, h3, _⟩ := pair_of_good hb hj hg
  exact h s t h1 h2 h3
theorem first_places {M : Nat → Int} (hF : Fit M) (hU : Und M) {s t n : Nat} (hst : s < t) (ht : t < (codes M 2048).length) (hm : M ((codes M 2048).getD s 0) = M ((codes M 2048).getD t 0)) (hd : Diff ((codes M 2048).getD s 0) ((codes M 2048).getD t 0) n)
    (h1 : ∀ s' t', s' < s → s' < t' → t' < (codes M 2048).length → ¬ PairAt M s' t') (h2 : ∀ t', s < t' → t' < t → ¬ PairAt M s t') : First M ((codes M 2048).getD s 0) n := by
  obtain ⟨la, na⟩ := codes_at (M := M) (t := s) (by omega)
  obtain ⟨lb, nb⟩ := codes_at ht
  have hlt := codes_lt hst ht
  obtain ⟨k, hk⟩ : ∃ k : Nat, M ((codes M 2048).getD s 0) = k := by
    rcases hF _ la with h | ⟨k, _, h⟩
    · exact absurd h na
    · exact ⟨k, h⟩
  refine ⟨la, hd.1, good_of hU la lb hlt hk (hm ▸ hk) hd, fun b j hb hj hg => ?_⟩
  obtain ⟨s', t', g1, g2, g3, g4, g5⟩ := pair_of_good hb hj hg
  rcases Nat.lt_trichotomy s' s with h | h | h
  · exact absurd g3 (h1 s' t' h g1 g2)
  · subst h
    right
    refine ⟨g4, ?_⟩
    have hnt : ¬ t' < t := fun h => h2 t' g1 h g3
    have eb := (diff_low la lb hlt hd).2
    have hle : (codes M 2048).getD t 0 ≤ (codes M 2048).getD t' 0 := by
      rcases Nat.lt_or_ge t t' with h | h
      · exact Nat.le_of_lt (codes_lt h g2)
      · obtain rfl : t = t' := by omega
        exact Nat.le_refl _
    rw [g5, eb, ← g4] at hle
    have ha0 := (diff_low la lb hlt hd).1
    obtain ⟨_, _, _, hb0, _⟩ := hg
    rw [← g4] at hb0
    have e1 : (codes M 2048).getD s' 0 ||| 2 ^ n = (codes M 2048).getD s' 0 + 2 ^ n := or_add la hd.1 ha0
    have e2 : (codes M 2048).getD s' 0 ||| 2 ^ j = (codes M 2048).getD s' 0 + 2 ^ j := or_add la hj hb0
    rw [e1, e2] at hle
    exact (Nat.pow_le_pow_iff_right (a := 2) (by omega)).1 (by omega)
  · left
    rw [← g4]
    exact codes_lt h (by omega)
end Go.Proofs.Ytjofgomnnpeepaa
