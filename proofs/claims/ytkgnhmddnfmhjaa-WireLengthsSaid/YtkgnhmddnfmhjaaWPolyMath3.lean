/- Plain mathematics of the long division: what stands in the row behind so many rounds. Nothing of the program is named here. -/
import Derived.Test.YtkgnhmddnfmhjaaWPolyI
namespace Go.Proofs.Ytkgnhmddnfmhjaa
/-- What stands at place j when i rounds are over. -/
def divC (W L : Nat) (R : List Int) (i j : Nat) : Int := if j < i then 0 else if j < i + W then bt (wholeN W L (R.take i)) (W - 1 - (j - i)) else R.getD (j - W) 0
def divL (W L : Nat) (R : List Int) (i : Nat) : List Int := (List.range (R.length + W)).map (divC W L R i)
/-- The divisor's bits. -/
def dvs (W L : Nat) (k : Nat) : Int := ((1 : Int) :: btL L W).getD k 0
/-- The same in the midst of a round: k places are done. -/
def divE (W L : Nat) (R : List Int) (i k j : Nat) : Int := if i ≤ j ∧ j < i + k then (divC W L R i j + dvs W L (j - i)) % 2 else divC W L R i j
def divM (W L : Nat) (R : List Int) (i k : Nat) : List Int := (List.range (R.length + W)).map (divE W L R i k)
section
variable {W L : Nat} {R : List Int}
theorem divL_len (i : Nat) : (divL W L R i).length = R.length + W := by simp [divL]
theorem divM_len (i k : Nat) : (divM W L R i k).length = R.length + W := by simp [divM]
theorem divL_getD (i : Nat) {j : Nat} (h : j < R.length + W) : (divL W L R i).getD j 0 = divC W L R i j := by
  simp only [divL, List.getD, List.getElem?_map, List.getElem?_range h, Option.map_some, Option.getD_some]
theorem divM_getD (i k : Nat) {j : Nat} (h : j < R.length + W) : (divM W L R i k).getD j 0 = divE W L R i k j := by
  simp only [divM, List.getD, List.getElem?_map, List.getElem?_range h, Option.map_some, Option.getD_some]
theorem getD_bits {R : List Int} (hb : ∀ x ∈ R, x = 0 ∨ x = 1) (j : Nat) : R.getD j 0 = 0 ∨ R.getD j 0 = 1 := by
  by_cases h : j < R.length
  · have e : R.getD j 0 = R[j] := by simp [List.getD, h]
    rw [e]; exact hb _ (List.getElem_mem h)
  · simp [List.getD, List.getElem?_eq_none (Nat.le_of_not_lt h)]
theorem divC_bits (hb : ∀ x ∈ R, x = 0 ∨ x = 1) (i j : Nat) : divC W L R i j = 0 ∨ divC W L R i j = 1 := by
  unfold divC
  split
  · exact .inl rfl
  · split
    · exact bt_bit _ _
    · exact getD_bits hb _
theorem dvs_bits (k : Nat) : dvs W L k = 0 ∨ dvs W L k = 1 := by
  unfold dvs
  refine getD_bits (fun x hx => ?_) k
  rw [List.mem_cons] at hx
  rcases hx with rfl | hx
  · exact .inr rfl
  · simp only [btL, List.mem_map] at hx
    obtain ⟨i, _, rfl⟩ := hx
    exact bt_bit _ _
theorem dvs_zero : dvs W L 0 = 1 := rfl
theorem dvs_succ {k : Nat} (h : k < W) : dvs W L (k + 1) = bt L (W - 1 - k) := by
  unfold dvs
  rw [List.getD_cons_succ]
  exact btL_getD L h
theorem divM_bits (hb : ∀ x ∈ R, x = 0 ∨ x = 1) (i k : Nat) : ∀ x ∈ divM W L R i k, 0 ≤ x ∧ x ≤ 255 := by
  intro x hx
  simp only [divM, List.mem_map] at hx
  obtain ⟨j, _, rfl⟩ := hx
  unfold divE
  split
  · omega
  · have := divC_bits (W := W) (L := L) hb i j; omega
theorem divL_bits (hb : ∀ x ∈ R, x = 0 ∨ x = 1) (i : Nat) : ∀ x ∈ divL W L R i, 0 ≤ x ∧ x ≤ 255 := by
  intro x hx
  simp only [divL, List.mem_map] at hx
  obtain ⟨j, _, rfl⟩ := hx
  have := divC_bits (W := W) (L := L) hb i j; omega
theorem bt_zero (k : Nat) : bt 0 k = 0 := by simp [bt]
theorem divL_zero : divL W L R 0 = List.replicate W 0 ++ R := by
  apply List.ext_getElem
  · simp [divL_len]; omega
  · intro j h1 h2
    rw [divL_len] at h1
    have e := divL_getD (W := W) (L := L) (R := R) 0 h1
    simp only [List.getD, List.getElem?_eq_getElem (show j < (divL W L R 0).length by rw [divL_len]; exact h1), Option.getD_some] at e
    rw [e]
    unfold divC
    rw [if_neg (by omega)]
    by_cases h : j < W
    · rw [if_pos (by omega), List.getElem_append_left (by simpa using h)]
      show bt (wholeN W L []) _ = _
      simp [wholeN, bt_zero]
    · rw [if_neg (by omega), List.getElem_append_right (by simpa using h)]
      simp [List.getD, show j - W < R.length by omega]
theorem divM_zero (i : Nat) : divM W L R i 0 = divL W L R i := by
  unfold divM divL
  refine List.map_congr_left fun j _ => ?_
  unfold divE
  rw [if_neg (by omega)]
theorem divM_here (i k : Nat) (h : i + k < R.length + W) : (divM W L R i k).getD (i + k) 0 = divC W L R i (i + k) := by
  rw [divM_getD i k h]
  unfold divE
  rw [if_neg (by omega)]
theorem divM_step (i k : Nat) : divM W L R i (k + 1) = (divM W L R i k).set (i + k) ((divC W L R i (i + k) + dvs W L k) % 2) := by
  apply List.ext_getElem
  · simp [divM_len]
  · intro j h1 h2
    rw [divM_len] at h1
    have e1 := divM_getD (W := W) (L := L) (R := R) i (k + 1) h1
    have e2 := divM_getD (W := W) (L := L) (R := R) i k h1
    simp only [List.getD, List.getElem?_eq_getElem (show j < (divM W L R i (k + 1)).length by rw [divM_len]; exact h1), Option.getD_some] at e1
    simp only [List.getD, List.getElem?_eq_getElem (show j < (divM W L R i k).length by rw [divM_len]; exact h1), Option.getD_some] at e2
    rw [e1, List.getElem_set]
    unfold divE at e2 ⊢
    by_cases e : i + k = j
    · subst e
      rw [if_pos ⟨by omega, by omega⟩, if_pos rfl, show i + k - i = k by omega]
    · rw [if_neg e, e2]
      by_cases h3 : i ≤ j ∧ j < i + k
      · rw [if_pos h3, if_pos ⟨h3.1, by omega⟩]
      · rw [if_neg h3, if_neg (fun e3 => h3 ⟨e3.1, by omega⟩)]
theorem top_of (hW : 1 ≤ W) (i : Nat) : divC W L R i i = bt (wholeN W L (R.take i)) (W - 1) := by
  unfold divC
  rw [if_neg (by omega), if_pos (by omega), Nat.sub_self, Nat.sub_zero]
theorem bit_two (v W m : Nat) (hm : m < W) : (2 * v % 2 ^ W).testBit m = (decide (1 ≤ m) && v.testBit (m - 1)) := by
  rw [Nat.testBit_mod_two_pow]
  have := Nat.testBit_two_pow_mul (i := 1) (a := v) (j := m)
  simp only [Nat.pow_one] at this
  rw [this]
  simp [hm]
theorem bit_b2 (x : Int) (m : Nat) : (b2 x).testBit m = (decide (m = 0) && decide (x % 2 = 1)) := by
  have h := b2_cast x
  have hl := b2_lt x
  rcases Int.emod_two_eq x with hx | hx
  · have : b2 x = 0 := by omega
    rw [this, hx]; simp
  · have : b2 x = 1 := by omega
    rw [this, hx]
    cases m with
    | zero => rfl
    | succ m => simp [Nat.testBit_succ]
/-- One round's turn of each place. -/
theorem divC_step (hW : 1 ≤ W) (hb : ∀ x ∈ R, x = 0 ∨ x = 1) (i j : Nat) (hi : i < R.length) :
    divC W L R (i + 1) j = if i ≤ j ∧ j < i + (W + 1) ∧ divC W L R i i = 1 then (divC W L R i j + dvs W L (j - i)) % 2 else divC W L R i j := by
  have htake : R.take (i + 1) = R.take i ++ [R.getD i 0] := by
    rw [List.take_succ_eq_append_getElem hi]
    simp [List.getD, hi]
  have hx := getD_bits hb i
  rw [top_of hW]
  by_cases h1 : j < i
  · rw [if_neg (by omega)]
    unfold divC
    rw [if_pos (by omega), if_pos h1]
  by_cases h0 : j = i
  · subst h0
    have e : divC W L R (j + 1) j = 0 := by unfold divC; rw [if_pos (by omega)]
    rw [e, top_of hW]
    rcases bt_bit (wholeN W L (R.take j)) (W - 1) with hb0 | hb0
    · rw [hb0, if_neg (by omega)]
    · rw [hb0, if_pos ⟨by omega, by omega, rfl⟩, Nat.sub_self, dvs_zero]; rfl
  by_cases h2 : j < i + (W + 1)
  · obtain ⟨d, rfl⟩ : ∃ d, j = i + 1 + d := ⟨j - i - 1, by omega⟩
    have hd : d < W := by omega
    have e1 : divC W L R (i + 1) (i + 1 + d) = bt (wholeN W L (R.take (i + 1))) (W - 1 - d) := by
      unfold divC
      rw [if_neg (by omega), if_pos (by omega), show i + 1 + d - (i + 1) = d by omega]
    rw [e1, htake, whole_snoc]
    have e2 : dvs W L (i + 1 + d - i) = bt L (W - 1 - d) := by
      rw [show i + 1 + d - i = d + 1 by omega, dvs_succ hd]
    rw [e2]
    have e3 : divC W L R i (i + 1 + d) = if W - 1 - d = 0 then R.getD i 0 else bt (wholeN W L (R.take i)) (W - 1 - d - 1) := by
      unfold divC
      rw [if_neg (by omega)]
      by_cases h3 : d + 1 < W
      · rw [if_pos (by omega), if_neg (by omega), show W - 1 - (i + 1 + d - i) = W - 1 - d - 1 by omega]
      · rw [if_neg (by omega), if_pos (by omega), show i + 1 + d - W = i by omega]
    rw [e3]
    generalize wholeN W L (R.take i) = v
    generalize hm : W - 1 - d = m
    have hmW : m < W := by omega
    generalize R.getD i 0 = x at hx
    unfold bt raiseN
    simp only [Nat.testBit_xor, bit_two v W m hmW, bit_b2]
    rcases Nat.eq_zero_or_pos m with hm0 | hm0
    · subst hm0
      cases hv : v.testBit (W - 1) <;> cases hl : L.testBit 0 <;> rcases hx with hx | hx <;> subst hx <;> simp [h2, hl] <;> omega
    · have hne : m ≠ 0 := by omega
      cases hv : v.testBit (W - 1) <;> cases hl : L.testBit m <;> cases hq : v.testBit (m - 1) <;> simp [h2, hl, hne, show 1 ≤ m from hm0] <;> omega
  · rw [if_neg (by omega)]
    unfold divC
    rw [if_neg (by omega), if_neg (by omega), if_neg (by omega), if_neg (by omega)]
theorem divM_end (hW : 1 ≤ W) (hb : ∀ x ∈ R, x = 0 ∨ x = 1) (i : Nat) (hi : i < R.length) (h1 : divC W L R i i = 1) : divM W L R i (W + 1) = divL W L R (i + 1) := by
  unfold divM divL
  refine List.map_congr_left fun j _ => ?_
  rw [divC_step hW hb i j hi]
  unfold divE
  by_cases h : i ≤ j ∧ j < i + (W + 1)
  · rw [if_pos h, if_pos ⟨h.1, h.2, h1⟩]
  · rw [if_neg h, if_neg (fun e => h ⟨e.1, e.2.1⟩)]
theorem divL_skip (hW : 1 ≤ W) (hb : ∀ x ∈ R, x = 0 ∨ x = 1) (i : Nat) (hi : i < R.length) (h1 : ¬ divC W L R i i = 1) : divL W L R i = divL W L R (i + 1) := by
  unfold divL
  refine List.map_congr_left fun j _ => ?_
  rw [divC_step hW hb i j hi, if_neg (fun e => h1 e.2.2)]
theorem divL_tail : (divL W L R R.length).drop R.length = btL (wholeN W L R) W := by
  apply List.ext_getElem
  · simp [divL_len, btL_len]
  · intro j h1 h2
    rw [btL_len] at h2
    rw [List.getElem_drop]
    have e := divL_getD (W := W) (L := L) (R := R) R.length (show R.length + j < R.length + W by omega)
    simp only [List.getD, List.getElem?_eq_getElem (show R.length + j < (divL W L R R.length).length by rw [divL_len]; omega), Option.getD_some] at e
    rw [e]
    unfold divC
    rw [if_neg (by omega), if_pos (by omega), List.take_length, show R.length + j - R.length = j by omega]
    simp [btL]
end
end Go.Proofs.Ytkgnhmddnfmhjaa