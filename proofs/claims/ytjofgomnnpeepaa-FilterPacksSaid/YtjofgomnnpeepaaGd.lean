/- What pair answers. -/
import Derived.Test.YtjofgomnnpeepaaGc
namespace Go.Proofs.Ytjofgomnnpeepaa
open Go.RowKit Go.Sort

theorem i64_or_low (a b : Nat) (ha : a < 2048) (hb : b < 2048) : bits .or .i64 (a : Int) (b : Int) = ((a ||| b : Nat) : Int) := by
  have hlt : a ||| b < 2 ^ 11 := Nat.or_lt_two_pow ha hb
  have key : (BitVec.ofInt 64 (a : Int) ||| BitVec.ofInt 64 (b : Int)).toNat = a ||| b := by
    rw [BitVec.toNat_or, BitVec.toNat_ofInt, BitVec.toNat_ofInt]
    have h1 : (((a : Int)) % ((2 ^ 64 : Nat) : Int)).toNat = a := by omega
    have h2 : (((b : Int)) % ((2 ^ 64 : Nat) : Int)).toNat = b := by omega
    rw [h1, h2]
  have hs : bits .or .i64 (a : Int) (b : Int) = IntKind.i64.wrap ((BitVec.ofInt 64 (a : Int) ||| BitVec.ofInt 64 (b : Int)).toNat : Nat) := rfl
  rw [hs, key, IntKind.wrap_i64]
  omega
theorem i64_andNot_bit (a i : Nat) (hi : i < 11) : bits .andNot .i64 ((2 ^ i : Nat) : Int) (a : Int) = if a.testBit i then 0 else ((2 ^ i : Nat) : Int) := by
  have hp : 2 ^ i < 2 ^ 11 := Nat.pow_lt_pow_right (by omega) hi
  have key : (BitVec.ofInt 64 ((2 ^ i : Nat) : Int) &&& ~~~ (BitVec.ofInt 64 (a : Int))).toNat = if a.testBit i then 0 else 2 ^ i := by
    rw [BitVec.ofInt_natCast, BitVec.ofInt_natCast]
    have e : (BitVec.ofNat 64 (2 ^ i) &&& ~~~ (BitVec.ofNat 64 a)) = if a.testBit i then 0#64 else BitVec.ofNat 64 (2 ^ i) := by
      apply BitVec.eq_of_getLsbD_eq
      intro k hk
      have hd : decide (k < 64) = true := decide_eq_true hk
      by_cases e : i = k
      · subst e
        cases ht : a.testBit i <;> simp only [BitVec.getLsbD_and, BitVec.getLsbD_not, BitVec.getLsbD_ofNat, Nat.testBit_two_pow, ht, hd, if_true, if_false, Bool.false_eq_true, Nat.zero_testBit, Bool.not_true, Bool.not_false, Bool.and_true, Bool.true_and, Bool.and_false]
      · have e2 : decide (i = k) = false := decide_eq_false e
        cases ht : a.testBit i <;> simp only [BitVec.getLsbD_and, BitVec.getLsbD_not, BitVec.getLsbD_ofNat, Nat.testBit_two_pow, hd, e2, if_true, if_false, Bool.false_eq_true, Nat.zero_testBit, Bool.and_false, Bool.false_and]
    rw [e]
    split
    · rfl
    · rw [BitVec.toNat_ofNat, Nat.mod_eq_of_lt (by omega)]
  have hs : bits .andNot .i64 ((2 ^ i : Nat) : Int) (a : Int) = IntKind.i64.wrap ((BitVec.ofInt 64 ((2 ^ i : Nat) : Int) &&& ~~~ (BitVec.ofInt 64 (a : Int))).toNat : Nat) := rfl
  rw [hs, key, IntKind.wrap_i64]
  generalize 2 ^ i = z at hp ⊢
  split <;> omega
theorem and_bit (k i : Nat) : k &&& 2 ^ i = if k.testBit i then 2 ^ i else 0 := by
  apply Nat.eq_of_testBit_eq
  intro j
  by_cases e : i = j
  · subst e
    cases ht : k.testBit i <;> simp [ht]
  · cases ht : k.testBit i <;> simp [e]
/-- Is a with its bit i the first half of a pair? -/
def Good (M : Nat → Int) (a i : Nat) : Prop := ∃ k : Nat, M a = k ∧ k.testBit i = true ∧ a.testBit i = false ∧ M (a ||| 2 ^ i) = k
theorem i64_andNot_zero (a : Int) : bits .andNot .i64 0 a = 0 := by
  have hs : bits .andNot .i64 0 a = IntKind.i64.wrap ((BitVec.ofInt 64 0 &&& ~~~ (BitVec.ofInt 64 a)).toNat : Nat) := rfl
  have e : (BitVec.ofInt 64 0 &&& ~~~ (BitVec.ofInt 64 a)) = 0#64 := by
    rw [show BitVec.ofInt 64 0 = 0#64 from rfl, BitVec.zero_and]
  rw [hs, e]
  rfl
/-- The values that a round of pair goes through. -/
theorem bit_facts (q : Nat) (hq : q < 11) : ∃ p : Nat, 2 ^ q = p ∧ 0 < p ∧ p < 2048 ∧ wrap64 (2 ^ q) = (p : Int) := by
  have hp : 2 ^ q < 2 ^ 11 := Nat.pow_lt_pow_right (by omega) hq
  refine ⟨2 ^ q, rfl, Nat.two_pow_pos q, hp, ?_⟩
  have e : ((2 : Int) ^ q) = ((2 ^ q : Nat) : Int) := by simp
  rw [e]
  generalize 2 ^ q = z at hp ⊢
  unfold wrap64
  omega
/-- Masks hold -1 or eleven bits. -/
def Fit (M : Nat → Int) : Prop := ∀ a, a < 2048 → M a = -1 ∨ ∃ k : Nat, k < 2048 ∧ M a = k
/-- No pair, or the first one. -/
def Paired (M : Nat → Int) (e : Ending) : Prop :=
  (∃ a i, a < 2048 ∧ i < 11 ∧ Good M a i ∧ (∀ b j, b < 2048 → j < 11 → Good M b j → a < b ∨ (a = b ∧ i ≤ j)) ∧ e = .returned (.tuple #[.int .i64 (a : Nat), .int .i64 ((2 ^ i : Nat) : Int), .bool true])) ∨
  ((∀ b j, b < 2048 → j < 11 → ¬ Good M b j) ∧ ∃ x y, e = .returned (.tuple #[.int .i64 x, .int .i64 y, .bool false]))
end Go.Proofs.Ytjofgomnnpeepaa
