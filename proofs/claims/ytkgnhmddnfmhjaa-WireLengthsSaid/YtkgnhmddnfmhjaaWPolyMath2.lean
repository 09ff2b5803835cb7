/- Plain mathematics of remainders: rows in which some bits within a few places are turned. Nothing of the program is named here. -/
import Derived.Test.YtkgnhmddnfmhjaaWPolyF
namespace Go.Proofs.Ytkgnhmddnfmhjaa
/-- The number of a row. -/
def numN' (l : List Int) : Nat := l.foldl (fun n x => 2 * n + b2 x) 0
theorem numN'_snoc (l : List Int) (x : Int) : numN' (l ++ [x]) = 2 * numN' l + b2 x := by simp [numN', List.foldl_append]
theorem numN'_lt (l : List Int) : numN' l < 2 ^ l.length := by
  refine snoc_ind (P := fun l => numN' l < 2 ^ l.length) (by simp [numN']) (fun l x ih => ?_) l
  rw [numN'_snoc, List.length_append]
  have := b2_lt x
  have e : 2 ^ (l.length + 1) = 2 * 2 ^ l.length := Nat.pow_succ'
  simp only [List.length_cons, List.length_nil, Nat.zero_add, e]
  omega
theorem dbl_bit (n : Nat) (x : Int) : (2 * n) ^^^ b2 x = 2 * n + b2 x := by
  have h := b2_lt x
  rcases Nat.eq_zero_or_pos (b2 x) with h0 | h0
  · simp [h0]
  · rw [show b2 x = 1 by omega]
    apply Nat.eq_of_testBit_eq
    intro i
    rw [Nat.testBit_xor]
    cases i with
    | zero => simp [Nat.testBit_zero, Nat.add_mod]
    | succ i =>
      rw [Nat.testBit_succ, Nat.testBit_succ, Nat.testBit_succ]
      rw [show 2 * n / 2 = n by omega, show (2 * n + 1) / 2 = n by omega]
      simp
theorem numN'_zero (l : List Int) : numN' l = 0 ↔ ∀ x ∈ l, b2 x = 0 := by
  refine snoc_ind (P := fun l => numN' l = 0 ↔ ∀ x ∈ l, b2 x = 0) (by simp [numN']) (fun l x ih => ?_) l
  rw [numN'_snoc]
  constructor
  · intro h y hy
    simp only [List.mem_append, List.mem_singleton] at hy
    rcases hy with hy | hy
    · exact (ih.1 (by omega)) y hy
    · rw [hy]; omega
  · intro h
    have h1 := ih.2 (fun y hy => h y (by simp [hy]))
    have h2 := h x (by simp)
    omega

section
variable {W L : Nat}
theorem whole_short (hW : 1 ≤ W) (l : List Int) : l.length ≤ W → wholeN W L l = numN' l := by
  refine snoc_ind (P := fun l => l.length ≤ W → wholeN W L l = numN' l) (fun _ => rfl) (fun l x ih => ?_) l
  intro h
  simp only [List.length_append, List.length_cons, List.length_nil] at h
  have hlt := numN'_lt l
  have hp : 2 ^ l.length ≤ 2 ^ (W - 1) := Nat.pow_le_pow_right (by omega) (by omega)
  rw [whole_snoc, ih (by omega), raise_low (by omega) hW, numN'_snoc, dbl_bit]
theorem whole_zeros (k : Nat) (l : List Int) : wholeN W L (List.replicate k 0 ++ l) = wholeN W L l := by
  have h : wholeN W L (List.replicate k 0) = 0 := by
    induction k with
    | zero => rfl
    | succ k ih => rw [List.replicate_succ', whole_snoc, ih, raise_zero]; simp [b2]
  unfold wholeN at h ⊢
  rw [List.foldl_append, h]
theorem raise_inj (hW : 1 ≤ W) (hL : L % 2 = 1) {n : Nat} (hn : n < 2 ^ W) (h : raiseN W L n = 0) : n = 0 := by
  unfold raiseN at h
  have h2 : 2 ^ W = 2 * 2 ^ (W - 1) := by rw [← Nat.pow_succ']; congr 1; omega
  by_cases hb : n.testBit (W - 1)
  · rw [if_pos hb] at h
    have e : 2 * n % 2 ^ W = L := by
      have := congrArg (· ^^^ L) h
      simpa [Nat.xor_assoc] using this
    have : 2 * n % 2 ^ W % 2 = 0 := by
      rw [h2, Nat.mul_mod_mul_left]; omega
    omega
  · rw [if_neg hb, Nat.xor_zero, h2, Nat.mul_mod_mul_left] at h
    have h3 : n % 2 ^ (W - 1) = 0 := by omega
    have hlow : n < 2 ^ (W - 1) := by
      have hb' : n.testBit (W - 1) = false := by simpa using hb
      rw [Nat.testBit_eq_decide_div_mod_eq] at hb'
      have h4 : n / 2 ^ (W - 1) < 2 := by rw [Nat.div_lt_iff_lt_mul (Nat.two_pow_pos _)]; omega
      have h6 : n / 2 ^ (W - 1) % 2 ≠ 1 := of_decide_eq_false hb'
      have h5 : n / 2 ^ (W - 1) = 0 := by
        generalize n / 2 ^ (W - 1) = z at h4 h6
        omega
      rw [Nat.div_eq_zero_iff] at h5
      have := Nat.two_pow_pos (W - 1)
      omega
    rw [Nat.mod_eq_of_lt hlow] at h3
    exact h3
theorem raises_inj (hW : 1 ≤ W) (hL : L % 2 = 1) (hL2 : L < 2 ^ W) {n : Nat} (hn : n < 2 ^ W) : ∀ k, raises W L k n = 0 → n = 0
  | 0, h => h
  | k + 1, h => by
    have hlt : raises W L k n < 2 ^ W := by
      cases k with
      | zero => exact hn
      | succ k => exact raise_lt hL2 _
    exact raises_inj hW hL hL2 hn k (raise_inj hW hL hlt h)
/-- One burst: noughts, some bits, noughts. -/
theorem whole_burst (hW : 1 ≤ W) (hL : L % 2 = 1) (hL2 : L < 2 ^ W) (a r : Nat) (p : List Int) (hp : p.length ≤ W) :
    wholeN W L (List.replicate a 0 ++ p ++ List.replicate r 0) = 0 ↔ ∀ x ∈ p, b2 x = 0 := by
  rw [whole_noughts, whole_zeros, whole_short hW p hp, ← numN'_zero]
  constructor
  · intro h
    exact raises_inj hW hL hL2 (Nat.lt_of_lt_of_le (numN'_lt p) (Nat.pow_le_pow_right (by omega) hp)) r h
  · intro h
    rw [h, raises_zero]
end
/-- Whether one of the lowest bits is to be turned. -/
def anyB (t k : Nat) : Bool := (List.range k).any fun i => t.testBit i
theorem anyB_zero (t : Nat) : anyB t 0 = false := rfl
theorem anyB_succ (t k : Nat) : anyB t (k + 1) = (anyB t k || t.testBit k) := by simp [anyB, List.range_succ, List.any_append]
theorem anyB_false (t k : Nat) : anyB t k = false ↔ ∀ i, i < k → t.testBit i = false := by simp [anyB, List.any_eq_false]
/-- A row whose bits from a place on are turned, as a number tells. -/
def flipL (l : List Int) (a t k : Nat) : List Int := (List.range l.length).map fun j => if a ≤ j ∧ j < a + k ∧ t.testBit (j - a) = true then 1 - l.getD j 0 else l.getD j 0
theorem flipL_len (l : List Int) (a t k : Nat) : (flipL l a t k).length = l.length := by simp [flipL]
theorem flipL_getD (l : List Int) (a t k : Nat) {j : Nat} (h : j < l.length) : (flipL l a t k).getD j 0 = if a ≤ j ∧ j < a + k ∧ t.testBit (j - a) = true then 1 - l.getD j 0 else l.getD j 0 := by
  simp only [flipL, List.getD, List.getElem?_map, List.getElem?_range h, Option.map_some, Option.getD_some]
theorem flipL_zero (l : List Int) (a t : Nat) : flipL l a t 0 = l := by
  apply List.ext_getElem
  · exact flipL_len l a t 0
  · intro i h1 h2
    have := flipL_getD l a t 0 h2
    rw [if_neg (by omega)] at this
    simpa [List.getD, h1, h2] using this
section
variable {W L : Nat}
theorem flip_whole (hW : 1 ≤ W) (hL : L % 2 = 1) (hL2 : L < 2 ^ W) (l : List Int) (hb : ∀ x ∈ l, x = 0 ∨ x = 1) (h0 : wholeN W L l = 0) (a t k : Nat) (hk : k ≤ W) (hak : a + k ≤ l.length ∨ k = 0) :
    wholeN W L (flipL l a t k) = 0 ↔ anyB t k = false := by
  rcases Nat.eq_zero_or_pos k with hk0 | hk0
  · subst hk0; rw [flipL_zero]; simp [h0, anyB_zero]
  have hak : a + k ≤ l.length := by omega
  let p : List Int := (List.range k).map fun i => if t.testBit i then 1 else 0
  have hp : p.length = k := by simp [p]
  have hlen : (List.replicate a (0 : Int) ++ p ++ List.replicate (l.length - a - k) 0).length = l.length := by simp [hp]; omega
  have hx := whole_xor (W := W) (L := L) l (List.replicate a (0 : Int) ++ p ++ List.replicate (l.length - a - k) 0) (flipL l a t k) hlen (flipL_len l a t k) (fun i hi => by
    rw [flipL_getD l a t k hi]
    have hli : l.getD i 0 = 0 ∨ l.getD i 0 = 1 := by
      have : l.getD i 0 = l[i] := by simp [List.getD, hi]
      rw [this]; exact hb _ (List.getElem_mem hi)
    have hE : (List.replicate a (0 : Int) ++ p ++ List.replicate (l.length - a - k) 0).getD i 0 = if a ≤ i ∧ i < a + k ∧ t.testBit (i - a) = true then 1 else 0 := by
      simp only [List.getD]
      by_cases h1 : i < a
      · rw [List.append_assoc, List.getElem?_append_left (by simpa using h1), if_neg (by omega)]
        simp [h1]
      · by_cases h2 : i < a + k
        · rw [List.getElem?_append_left (by simp [hp]; omega), List.getElem?_append_right (by simp; omega)]
          simp only [List.length_replicate]
          have h3 : i - a < k := by omega
          simp only [p, List.getElem?_map, List.getElem?_range h3, Option.map_some, Option.getD_some]
          by_cases h4 : t.testBit (i - a) = true
          · rw [if_pos h4, if_pos ⟨by omega, h2, h4⟩]
          · rw [if_neg h4, if_neg (fun e => h4 e.2.2)]
        · rw [List.getElem?_append_right (by simp [hp]; omega), if_neg (by omega)]
          simp only [List.length_append, List.length_replicate, hp]
          rw [List.getElem?_replicate]
          split <;> rfl
    rw [hE]
    by_cases hc : a ≤ i ∧ i < a + k ∧ t.testBit (i - a) = true
    · rw [if_pos hc, if_pos hc]
      exact b2_add (by omega)
    · rw [if_neg hc, if_neg hc]
      exact b2_add (by omega))
  rw [hx, h0, Nat.zero_xor, whole_burst hW hL hL2 a _ p (by omega), anyB_false]
  constructor
  · intro h i hi
    have := h (if t.testBit i then 1 else 0) (by simp only [p, List.mem_map, List.mem_range]; exact ⟨i, hi, rfl⟩)
    cases hc : t.testBit i
    · rfl
    · rw [hc] at this; simp [b2] at this
  · intro h x hx
    simp only [p, List.mem_map, List.mem_range] at hx
    obtain ⟨i, hi, rfl⟩ := hx
    rw [h i hi]; rfl
/-- A sealed row is divided without a rest. -/
theorem whole_sealed (hW : 1 ≤ W) (hL : L < 2 ^ W) (l m : List Int) (hm : m = l ++ btL (remN W L 0 l) W) : wholeN W L m = 0 := by
  have hn := rem_lt (W := W) hL 0 l
  have hx := whole_xor (W := W) (L := L) (l ++ List.replicate W 0) (List.replicate l.length 0 ++ btL (remN W L 0 l) W) m (by simp [btL_len]) (by rw [hm]; simp [btL_len]) (fun i hi => by
    rw [hm]
    simp only [List.length_append, List.length_replicate] at hi
    simp only [List.getD]
    by_cases h1 : i < l.length
    · rw [List.getElem?_append_left h1, List.getElem?_append_left h1, List.getElem?_append_left (by simpa using h1)]
      simp [h1, b2]
    · rw [List.getElem?_append_right (by omega), List.getElem?_append_right (by omega), List.getElem?_append_right (by simp; omega)]
      simp only [List.length_replicate]
      rw [List.getElem?_replicate, if_pos (by omega)]
      simp [b2])
  rw [hx, whole_noughts, whole_zeros, whole_bits _ hn, rem_whole hW, Nat.xor_self]
end
end Go.Proofs.Ytkgnhmddnfmhjaa