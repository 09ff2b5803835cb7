/- Plain mathematics of remainders of rows of bits by a divisor: sums, pieces, the long division's row, sealed rows. Nothing of the program is named here. -/
import Derived.Test.YtkgnhmddnfmhjaaWBase
namespace Go.Proofs.Ytkgnhmddnfmhjaa
/-- The remainder of a remainder times x. -/
def raiseN (W L n : Nat) : Nat := ((2 * n) % 2 ^ W) ^^^ (if n.testBit (W - 1) then L else 0)
def b2 (x : Int) : Nat := (x % 2).toNat
theorem b2_lt (x : Int) : b2 x < 2 := by unfold b2; omega
theorem b2_cast (x : Int) : ((b2 x : Nat) : Int) = x % 2 := by unfold b2; omega
theorem two_le_pow {W : Nat} (h : 1 ≤ W) : 2 ≤ 2 ^ W := by
  have : 2 ^ 1 ≤ 2 ^ W := Nat.pow_le_pow_right (by omega) h
  simpa using this

section
variable {W L : Nat}
theorem raise_lt (hL : L < 2 ^ W) (n : Nat) : raiseN W L n < 2 ^ W := by
  unfold raiseN
  refine Nat.xor_lt_two_pow (Nat.mod_lt _ (Nat.two_pow_pos W)) ?_
  split
  · exact hL
  · exact Nat.two_pow_pos W
theorem raise_zero : raiseN W L 0 = 0 := by simp [raiseN]
theorem dbl_xor (a b : Nat) : 2 * (a ^^^ b) % 2 ^ W = (2 * a % 2 ^ W) ^^^ (2 * b % 2 ^ W) := by
  apply Nat.eq_of_testBit_eq
  intro i
  have h : ∀ n : Nat, (2 * n).testBit i = (decide (1 ≤ i) && n.testBit (i - 1)) := fun n => by
    have := Nat.testBit_two_pow_mul (i := 1) (a := n) (j := i)
    simpa using this
  simp only [Nat.testBit_mod_two_pow, Nat.testBit_xor, h]
  cases decide (i < W) <;> cases decide (1 ≤ i) <;> simp
theorem raise_xor (a b : Nat) : raiseN W L (a ^^^ b) = raiseN W L a ^^^ raiseN W L b := by
  unfold raiseN
  rw [dbl_xor, Nat.testBit_xor]
  cases a.testBit (W - 1) <;> cases b.testBit (W - 1)
  · simp
  · simp [Nat.xor_assoc]
  · simp only [Bool.xor_false, if_true, Bool.false_eq_true, if_false, Nat.xor_zero]
    rw [Nat.xor_assoc, Nat.xor_comm (2 * b % 2 ^ W) L, ← Nat.xor_assoc]
  · simp only [Bool.xor_self, if_true, Bool.false_eq_true, if_false, Nat.xor_zero]
    rw [Nat.xor_assoc, Nat.xor_comm L, Nat.xor_assoc (2 * b % 2 ^ W), Nat.xor_self, Nat.xor_zero]
end
/-- What is left of a row. -/
def wholeN (W L : Nat) (l : List Int) : Nat := l.foldl (fun n x => raiseN W L n ^^^ b2 x) 0
/-- What is left of a row with noughts behind, to which that of the row ahead of it is added. -/
def remN (W L s : Nat) (l : List Int) : Nat := l.foldl (fun n x => raiseN W L (n ^^^ b2 x * 2 ^ (W - 1))) (s % 2 ^ W)
theorem whole_snoc (W L : Nat) (l : List Int) (x : Int) : wholeN W L (l ++ [x]) = raiseN W L (wholeN W L l) ^^^ b2 x := by simp [wholeN, List.foldl_append]
theorem rem_snoc (W L s : Nat) (l : List Int) (x : Int) : remN W L s (l ++ [x]) = raiseN W L (remN W L s l ^^^ b2 x * 2 ^ (W - 1)) := by simp [remN, List.foldl_append]
theorem rem_nil (W L s : Nat) : remN W L s [] = s % 2 ^ W := rfl
theorem snoc_ind {P : List Int → Prop} (h0 : P []) (h1 : ∀ l x, P l → P (l ++ [x])) (l : List Int) : P l := by
  have : ∀ n (l : List Int), l.length = n → P l := by
    intro n
    induction n with
    | zero => intro l hl; rw [List.eq_nil_of_length_eq_zero hl]; exact h0
    | succ n ih =>
      intro l hl
      rcases List.eq_nil_or_concat l with rfl | ⟨l', y, rfl⟩
      · exact h0
      · rw [List.concat_eq_append] at hl ⊢
        exact h1 l' y (ih l' (by simpa using hl))
  exact this l.length l rfl

section
variable {W L : Nat}
theorem b2_lt' (hW : 1 ≤ W) (x : Int) : b2 x < 2 ^ W := Nat.lt_of_lt_of_le (b2_lt x) (two_le_pow hW)
theorem top_lt (hW : 1 ≤ W) (x : Int) : b2 x * 2 ^ (W - 1) < 2 ^ W := by
  have h := b2_lt x
  have h2 : 2 ^ W = 2 * 2 ^ (W - 1) := by rw [← Nat.pow_succ']; congr 1; omega
  have h3 := Nat.two_pow_pos (W - 1)
  rcases Nat.eq_zero_or_pos (b2 x) with h4 | h4
  · rw [h4]; omega
  · rw [show b2 x = 1 by omega]; omega
theorem whole_lt (hW : 1 ≤ W) (hL : L < 2 ^ W) (l : List Int) : wholeN W L l < 2 ^ W := by
  refine snoc_ind (P := fun l => wholeN W L l < 2 ^ W) (Nat.two_pow_pos W) (fun l x _ => ?_) l
  rw [whole_snoc]
  exact Nat.xor_lt_two_pow (raise_lt hL _) (b2_lt' hW x)
theorem rem_lt (hL : L < 2 ^ W) (s : Nat) (l : List Int) : remN W L s l < 2 ^ W := by
  refine snoc_ind (P := fun l => remN W L s l < 2 ^ W) (Nat.mod_lt _ (Nat.two_pow_pos W)) (fun l x _ => ?_) l
  rw [rem_snoc]
  exact raise_lt hL _
theorem rem_mod (hL : L < 2 ^ W) (s : Nat) (l : List Int) : remN W L s l % 2 ^ W = remN W L s l := Nat.mod_eq_of_lt (rem_lt hL s l)
/-- In pieces. -/
theorem rem_pieces (hL : L < 2 ^ W) (s : Nat) (l m : List Int) : remN W L s (l ++ m) = remN W L (remN W L s l) m := by
  unfold remN
  rw [List.foldl_append]
  have h := rem_mod hL s l
  unfold remN at h
  rw [h]
end
/-! ### Sums -/
theorem xor4 (a b c d : Nat) : (a ^^^ b) ^^^ (c ^^^ d) = (a ^^^ c) ^^^ (b ^^^ d) := by
  rw [Nat.xor_assoc, Nat.xor_assoc, ← Nat.xor_assoc b c d, Nat.xor_comm b c, Nat.xor_assoc c b d]
theorem b2_add {x y z : Int} (h : z % 2 = (x + y) % 2) : b2 z = b2 x ^^^ b2 y := by
  unfold b2
  rw [h]
  rcases Int.emod_two_eq x with hx | hx <;> rcases Int.emod_two_eq y with hy | hy <;> rw [hx, hy, Int.add_emod, hx, hy] <;> rfl
theorem fold_xor {f : Nat → Int → Nat} (hf : ∀ (a b : Nat) (x y z : Int), b2 z = b2 x ^^^ b2 y → f (a ^^^ b) z = f a x ^^^ f b y) :
    ∀ (l m k : List Int) (a b : Nat), m.length = l.length → k.length = l.length → (∀ i, i < l.length → b2 (k.getD i 0) = b2 (l.getD i 0) ^^^ b2 (m.getD i 0)) → k.foldl f (a ^^^ b) = l.foldl f a ^^^ m.foldl f b
  | [], [], [], a, b, _, _, _ => rfl
  | x :: l, y :: m, z :: k, a, b, h1, h2, h => by
    simp only [List.foldl_cons]
    rw [hf a b x y z (by simpa using h 0 (by simp))]
    exact fold_xor hf l m k _ _ (by simpa using h1) (by simpa using h2) (fun i hi => by have := h (i + 1) (by simp; omega); simpa using this)
  | [], _ :: _, _, _, _, h1, _, _ => by simp at h1
  | [], [], _ :: _, _, _, _, h2, _ => by simp at h2
  | _ :: _, [], _, _, _, h1, _, _ => by simp at h1
  | _ :: _, _ :: _, [], _, _, _, h2, _ => by simp at h2
theorem mul_xor (a b k : Nat) : (a ^^^ b) * 2 ^ k = a * 2 ^ k ^^^ b * 2 ^ k := by
  rw [← Nat.shiftLeft_eq, ← Nat.shiftLeft_eq, ← Nat.shiftLeft_eq, Nat.shiftLeft_xor_distrib]
section
variable {W L : Nat}
theorem whole_xor (l m k : List Int) (h1 : m.length = l.length) (h2 : k.length = l.length) (h : ∀ i, i < l.length → b2 (k.getD i 0) = b2 (l.getD i 0) ^^^ b2 (m.getD i 0)) :
    wholeN W L k = wholeN W L l ^^^ wholeN W L m :=
  fold_xor (f := fun n x => raiseN W L n ^^^ b2 x) (fun a b x y z hz => by rw [raise_xor, hz, xor4]) l m k 0 0 h1 h2 h
theorem rem_xor (s t : Nat) (l m k : List Int) (h1 : m.length = l.length) (h2 : k.length = l.length) (h : ∀ i, i < l.length → b2 (k.getD i 0) = b2 (l.getD i 0) ^^^ b2 (m.getD i 0)) :
    remN W L (s ^^^ t) k = remN W L s l ^^^ remN W L t m := by
  unfold remN
  rw [Nat.xor_mod_two_pow]
  exact fold_xor (f := fun n x => raiseN W L (n ^^^ b2 x * 2 ^ (W - 1))) (fun a b x y z hz => by rw [hz, mul_xor, xor4, raise_xor]) l m k _ _ h1 h2 h
end
/-! ### Noughts behind -/
def raises (W L : Nat) : Nat → Nat → Nat
  | 0, n => n
  | k + 1, n => raiseN W L (raises W L k n)
section
variable {W L : Nat}
theorem raises_zero (k : Nat) : raises W L k 0 = 0 := by
  induction k with
  | zero => rfl
  | succ k ih => show raiseN W L (raises W L k 0) = 0; rw [ih, raise_zero]
theorem raises_xor (k a b : Nat) : raises W L k (a ^^^ b) = raises W L k a ^^^ raises W L k b := by
  induction k with
  | zero => rfl
  | succ k ih => show raiseN W L _ = _; rw [ih, raise_xor]; rfl
theorem raises_in (k n : Nat) : raises W L k (raiseN W L n) = raiseN W L (raises W L k n) := by
  induction k with
  | zero => rfl
  | succ k ih => show raiseN W L _ = _; rw [ih]; rfl
theorem whole_noughts (l : List Int) (k : Nat) : wholeN W L (l ++ List.replicate k 0) = raises W L k (wholeN W L l) := by
  induction k with
  | zero => simp [raises]
  | succ k ih =>
    rw [List.replicate_succ', ← List.append_assoc, whole_snoc, ih]
    show _ = raiseN W L (raises W L k (wholeN W L l))
    simp [b2]
theorem raise_low {n : Nat} (h : n < 2 ^ (W - 1)) (hW : 1 ≤ W) : raiseN W L n = 2 * n := by
  unfold raiseN
  rw [Nat.testBit_lt_two_pow h]
  have h2 : 2 ^ W = 2 * 2 ^ (W - 1) := by rw [← Nat.pow_succ']; congr 1; omega
  rw [Nat.mod_eq_of_lt (by omega)]
  simp
theorem raises_one (hW : 1 ≤ W) : ∀ k, k < W → raises W L k 1 = 2 ^ k
  | 0, _ => rfl
  | k + 1, h => by
    show raiseN W L (raises W L k 1) = _
    rw [raises_one hW k (by omega), raise_low (Nat.pow_lt_pow_right (by omega) (by omega)) hW, Nat.pow_succ']
theorem raise_top (hW : 1 ≤ W) : raiseN W L (2 ^ (W - 1)) = L := by
  unfold raiseN
  rw [Nat.testBit_two_pow_self]
  have h2 : 2 * 2 ^ (W - 1) = 2 ^ W := by rw [← Nat.pow_succ']; congr 1; omega
  rw [h2, Nat.mod_self]
  simp
theorem raises_W (hW : 1 ≤ W) : raises W L W 1 = L := by
  obtain ⟨k, rfl⟩ : ∃ k, W = k + 1 := ⟨W - 1, by omega⟩
  show raiseN (k + 1) L (raises (k + 1) L k 1) = L
  rw [raises_one hW k (by omega)]
  exact raise_top hW
theorem raises_b2 (hW : 1 ≤ W) (x : Int) : raises W L W (b2 x) = raiseN W L (b2 x * 2 ^ (W - 1)) := by
  have h := b2_lt x
  rcases Nat.eq_zero_or_pos (b2 x) with h4 | h4
  · rw [h4, raises_zero, Nat.zero_mul, raise_zero]
  · rw [show b2 x = 1 by omega, raises_W hW, Nat.one_mul, raise_top hW]
/-- Noughts behind, and nothing ahead. -/
theorem rem_whole (hW : 1 ≤ W) (l : List Int) : remN W L 0 l = raises W L W (wholeN W L l) := by
  refine snoc_ind (P := fun l => remN W L 0 l = raises W L W (wholeN W L l)) ?_ (fun l x ih => ?_) l
  · rw [rem_nil, Nat.zero_mod]; exact (raises_zero W).symm
  · rw [rem_snoc, whole_snoc, raises_xor, raises_in, raise_xor, ih, raises_b2 hW]
theorem rem_noughts (s : Nat) (k : Nat) : remN W L s (List.replicate k 0) = raises W L k (s % 2 ^ W) := by
  induction k with
  | zero => rfl
  | succ k ih =>
    rw [List.replicate_succ', rem_snoc, ih]
    simp [b2, raises]
theorem rem_start (s : Nat) (l : List Int) : remN W L s l = remN W L 0 l ^^^ raises W L l.length (s % 2 ^ W) := by
  have h := rem_xor (W := W) (L := L) 0 s l (List.replicate l.length 0) l (by simp) rfl (fun i hi => by simp [List.getD, hi, b2])
  rw [Nat.zero_xor, rem_noughts] at h
  exact h
end
/-! ### A number's bits as a row -/
/-- One bit. -/
def bt (n k : Nat) : Int := if n.testBit k then 1 else 0
theorem bt_bit (n k : Nat) : bt n k = 0 ∨ bt n k = 1 := by unfold bt; split <;> simp
theorem bt_eq (n k : Nat) : ((n : Int) / 2 ^ k) % 2 = bt n k := by
  have h : ((n : Int) / 2 ^ k) % 2 = ((n / 2 ^ k % 2 : Nat) : Int) := by simp
  rw [h]
  unfold bt
  rw [Nat.testBit_eq_decide_div_mod_eq]
  have := Nat.mod_two_eq_zero_or_one (n / 2 ^ k)
  rcases this with h | h <;> simp [h]
theorem b2_bt (n k : Nat) : b2 (bt n k) = (n.testBit k).toNat := by unfold bt b2; cases n.testBit k <;> rfl
/-- The bits of a number from the power W - 1 on down. -/
def btL (n W : Nat) : List Int := (List.range W).map fun i => bt n (W - 1 - i)
theorem btL_len (n W : Nat) : (btL n W).length = W := by simp [btL]
theorem btL_getD (n : Nat) {W j : Nat} (h : j < W) : (btL n W).getD j 0 = bt n (W - 1 - j) := by simp [btL, List.getD, h]
theorem btL_take (n W j : Nat) (hj : j < W) : (btL n W).take (j + 1) = (btL n W).take j ++ [bt n (W - 1 - j)] := by
  rw [List.take_succ_eq_append_getElem (by rw [btL_len]; exact hj)]
  simp [btL]
section
variable {W L : Nat}
theorem whole_bits_take (n : Nat) (hn : n < 2 ^ W) : ∀ j, j ≤ W → wholeN W L ((btL n W).take j) = n / 2 ^ (W - j)
  | 0, _ => by
    have : n / 2 ^ W = 0 := Nat.div_eq_of_lt hn
    simp [this, wholeN]
  | j + 1, h => by
    have hd : n / 2 ^ (W - j) = n / 2 ^ (W - (j + 1)) / 2 := by
      rw [Nat.div_div_eq_div_mul, ← Nat.pow_succ]; congr 2; omega
    rw [btL_take n W j (by omega), whole_snoc, whole_bits_take n hn j (by omega), b2_bt]
    have hlow : n / 2 ^ (W - j) < 2 ^ (W - 1) := by
      rw [Nat.div_lt_iff_lt_mul (Nat.two_pow_pos _), ← Nat.pow_add]
      exact Nat.lt_of_lt_of_le hn (Nat.pow_le_pow_right (by omega) (by omega))
    rw [raise_low hlow (by omega), hd, show W - 1 - j = W - (j + 1) by omega, Nat.testBit_eq_decide_div_mod_eq]
    generalize n / 2 ^ (W - (j + 1)) = m
    rcases Nat.mod_two_eq_zero_or_one m with h | h
    · simp [h]; omega
    · have e : (2 * (m / 2)) ^^^ 1 = 2 * (m / 2) + 1 := by
        apply Nat.eq_of_testBit_eq
        intro i
        rw [Nat.testBit_xor]
        cases i with
        | zero => simp [Nat.testBit_zero, Nat.add_mod]
        | succ i =>
          rw [Nat.testBit_succ, Nat.testBit_succ, Nat.testBit_succ]
          rw [show 2 * (m / 2) / 2 = m / 2 by omega, show (2 * (m / 2) + 1) / 2 = m / 2 by omega]
          simp
      simp only [h, decide_true, Bool.toNat_true]
      rw [e]; omega
theorem whole_bits (n : Nat) (hn : n < 2 ^ W) : wholeN W L (btL n W) = n := by
  have h := whole_bits_take (L := L) n hn W (Nat.le_refl _)
  rw [List.take_of_length_le (by rw [btL_len]; exact Nat.le_refl _)] at h
  simpa using h
end
end Go.Proofs.Ytkgnhmddnfmhjaa