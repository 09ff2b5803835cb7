/- pair: how many bits of two bytes are alike. Nothing of the program is named here. -/
import Derived.Test.YtllaajkpobpeiaaOJFrameL
import Derived.Deep.CutBlock
namespace Go.Proofs.Ytllaajkpobpeiaa
open Go.RowKit
set_option linter.unusedSimpArgs false
set_option linter.unusedVariables false
def eqB (x y : Int) (j : Nat) : Bool := (x / 2 ^ j).tmod 2 == (y / 2 ^ j).tmod 2
def cbN (x y : Int) : Nat → Int | 0 => 0 | j + 1 => cbN x y j + (if eqB x y j then 1 else 0)
def popE (z : Int) : Int := z % 2 + z / 2 % 2 + z / 4 % 2 + z / 8 % 2 + z / 16 % 2 + z / 32 % 2 + z / 64 % 2 + z / 128 % 2
theorem cbN_range (x y : Int) : ∀ j, 0 ≤ cbN x y j ∧ cbN x y j ≤ j
  | 0 => ⟨Int.le_refl _, Int.le_refl _⟩
  | j + 1 => by
    have h := cbN_range x y j
    have e : cbN x y (j + 1) = cbN x y j + (if eqB x y j then 1 else 0) := rfl
    rw [e]
    split <;> omega
theorem bitI (n j : Nat) : ((n : Int) / 2 ^ j).tmod 2 = (((n.testBit j).toNat : Nat) : Int) := by
  have h : ((n : Int) / 2 ^ j) = (((n / 2 ^ j : Nat)) : Int) := by push_cast; rfl
  rw [h, Int.tmod_eq_emod_of_nonneg (Int.natCast_nonneg _), Nat.toNat_testBit]
  rfl
theorem eqB_nat (n m j : Nat) : eqB (n : Int) (m : Int) j = (n.testBit j == m.testBit j) := by
  unfold eqB
  rw [bitI, bitI]
  cases n.testBit j <;> cases m.testBit j <;> rfl
theorem not_natJ : ∀ n : Fin 256, 255 ^^^ n.val = 255 - n.val := by decide +kernel
theorem eqB_not (n m j : Nat) (hj : j < 8) : (n.testBit j == m.testBit j) = (255 ^^^ (n ^^^ m)).testBit j := by
  rw [Nat.testBit_xor, Nat.testBit_xor]
  have h : (255 : Nat).testBit j = true := by
    have : ∀ k : Fin 8, (255 : Nat).testBit k.val = true := by decide
    exact this ⟨j, hj⟩
  rw [h]
  cases n.testBit j <;> cases m.testBit j <;> rfl
theorem pop_nat (z : Nat) : popE (z : Int) = (((z.testBit 0).toNat + (z.testBit 1).toNat + (z.testBit 2).toNat + (z.testBit 3).toNat + (z.testBit 4).toNat + (z.testBit 5).toNat + (z.testBit 6).toNat + (z.testBit 7).toNat : Nat) : Int) := by
  unfold popE
  simp only [Nat.toNat_testBit]
  push_cast
  simp
theorem cbN_pop {x y : Int} (hx : 0 ≤ x ∧ x ≤ 255) (hy : 0 ≤ y ∧ y ≤ 255) : cbN x y 8 = popE (255 - bits .xor .u8 x y) := by
  obtain ⟨n, rfl⟩ := Int.eq_ofNat_of_zero_le hx.1
  obtain ⟨m, rfl⟩ := Int.eq_ofNat_of_zero_le hy.1
  rw [u8_xor_nat _ _ (by omega) (by omega)]
  have hk : n ^^^ m < 2 ^ 8 := Nat.xor_lt_two_pow (by omega) (by omega)
  have h1 := not_natJ ⟨n ^^^ m, by omega⟩
  simp only at h1
  rw [show (255 : Int) - ((n ^^^ m : Nat) : Int) = ((255 ^^^ (n ^^^ m) : Nat) : Int) by rw [h1]; omega, pop_nat]
  have hb : ∀ j, j < 8 → (if eqB (n : Int) (m : Int) j then (1 : Int) else 0) = ((((255 ^^^ (n ^^^ m)).testBit j).toNat : Nat) : Int) := fun j hj => by
    rw [eqB_nat, eqB_not n m j hj]
    cases (255 ^^^ (n ^^^ m)).testBit j <;> rfl
  simp only [cbN]
  rw [hb 0 (by omega), hb 1 (by omega), hb 2 (by omega), hb 3 (by omega), hb 4 (by omega), hb 5 (by omega), hb 6 (by omega), hb 7 (by omega)]
  push_cast
  omega
theorem pop_zero : ∀ n : Fin 256, popE (n.val : Int) = 0 → n.val = 0 := by decide +kernel
theorem cbN_zero {x y : Int} (hx : 0 ≤ x ∧ x ≤ 255) (hy : 0 ≤ y ∧ y ≤ 255) : cbN x y 8 = 0 ↔ y = 255 - x := by
  rw [cbN_pop hx hy]
  obtain ⟨n, rfl⟩ := Int.eq_ofNat_of_zero_le hx.1
  obtain ⟨m, rfl⟩ := Int.eq_ofNat_of_zero_le hy.1
  rw [u8_xor_nat _ _ (by omega) (by omega)]
  have hk : n ^^^ m < 2 ^ 8 := Nat.xor_lt_two_pow (by omega) (by omega)
  have hn := not_natJ ⟨n, by omega⟩
  simp only at hn
  constructor
  · intro h
    have h2 := pop_zero ⟨255 - (n ^^^ m), by omega⟩
    simp only at h2
    rw [show ((255 - (n ^^^ m) : Nat) : Int) = 255 - ((n ^^^ m : Nat) : Int) by omega] at h2
    have h3 := h2 h
    have h4 : n ^^^ m = 255 := by omega
    have h5 : n ^^^ (n ^^^ m) = m := by rw [← Nat.xor_assoc, Nat.xor_self, Nat.zero_xor]
    rw [h4, Nat.xor_comm, hn] at h5
    omega
  · intro h
    have h5 : m = 255 ^^^ n := by rw [hn]; omega
    have h6 : n ^^^ m = 255 := by rw [h5, Nat.xor_comm 255 n, ← Nat.xor_assoc, Nat.xor_self, Nat.zero_xor]
    rw [h6]
    decide
/-- How many bits of the first i bytes are alike. -/
def uN (l s : List Int) : Nat → Int | 0 => 0 | i + 1 => uN l s i + cbN (l.getD i 0) (s.getD i 0) 8
theorem uN_range (l s : List Int) : ∀ i, 0 ≤ uN l s i ∧ uN l s i ≤ 8 * i
  | 0 => ⟨Int.le_refl _, Int.le_refl _⟩
  | i + 1 => by
    have h := uN_range l s i
    have h2 := cbN_range (l.getD i 0) (s.getD i 0) 8
    have e : uN l s (i + 1) = uN l s i + cbN (l.getD i 0) (s.getD i 0) 8 := rfl
    rw [e]; omega
theorem getD_rng {l : List Int} (h : ∀ x ∈ l, 0 ≤ x ∧ x ≤ 255) (j : Nat) : 0 ≤ l.getD j 0 ∧ l.getD j 0 ≤ 255 := by
  by_cases hj : j < l.length
  · rw [List.getD_eq_getElem?_getD, List.getElem?_eq_getElem hj]
    exact h _ (List.getElem_mem hj)
  · simp [List.getD, List.getElem?_eq_none (Nat.le_of_not_lt hj)]
theorem uN_zero {l s : List Int} (hl : ∀ x ∈ l, 0 ≤ x ∧ x ≤ 255) (hs : ∀ x ∈ s, 0 ≤ x ∧ x ≤ 255) : ∀ i, uN l s i = 0 ↔ ∀ j, j < i → s.getD j 0 = 255 - l.getD j 0
  | 0 => ⟨fun _ j h => absurd h (by omega), fun _ => rfl⟩
  | i + 1 => by
    have h := uN_zero hl hs i
    have h1 := uN_range l s i
    have h2 := cbN_range (l.getD i 0) (s.getD i 0) 8
    have h3 := cbN_zero (getD_rng hl i) (getD_rng hs i)
    have e : uN l s (i + 1) = uN l s i + cbN (l.getD i 0) (s.getD i 0) 8 := rfl
    rw [e]
    constructor
    · intro h0 j hj
      by_cases hji : j < i
      · exact h.1 (by omega) j hji
      · obtain rfl : j = i := by omega
        exact h3.1 (by omega)
    · intro ha
      rw [h.2 (fun j hj => ha j (by omega)), h3.2 (ha i (by omega))]
      rfl
theorem flip_iff {l s : List Int} (hn : l.length = s.length) : s = flipL l ↔ ∀ j, j < l.length → s.getD j 0 = 255 - l.getD j 0 := by
  constructor
  · rintro rfl j hj
    unfold flipL
    exact getD_map hj
  · intro h
    refine List.ext_getElem (by rw [flipL_len]; omega) fun i h1 h2 => ?_
    have h3 := h i (by rw [flipL_len] at h2; exact h2)
    rw [List.getD_eq_getElem?_getD, List.getElem?_eq_getElem h1, List.getD_eq_getElem?_getD, List.getElem?_eq_getElem (by omega)] at h3
    simp only [Option.getD_some] at h3
    simp [flipL, h3]
/-- Is s what l is, turned? -/
def lkB (l s : List Int) : Bool := decide (s = flipL l)
theorem lkB_uN {l s : List Int} (hl : ∀ x ∈ l, 0 ≤ x ∧ x ≤ 255) (hs : ∀ x ∈ s, 0 ≤ x ∧ x ≤ 255) (hn : l.length = s.length) : lkB l s = decide (uN l s l.length = 0) := by
  unfold lkB
  rw [decide_eq_decide, uN_zero hl hs, flip_iff hn]
theorem lkB_len {l s : List Int} (hn : ¬ l.length = s.length) : lkB l s = false := by
  unfold lkB
  refine decide_eq_false fun h => hn ?_
  rw [h, flipL_len]
end Go.Proofs.Ytllaajkpobpeiaa