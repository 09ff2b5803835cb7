/- Plain mathematics of rows of bits: what is stuffed, and what is taken out again. Nothing of the program is named here. -/
import Derived.Test.YtkgnhmddnfmhjaaWPolyK
namespace Go.Proofs.Ytkgnhmddnfmhjaa
open Go.RowKit
/-- How many equal bits a row, told from its end, begins with. -/
def runW (c : Int) : List Int → Nat
  | [] => 0
  | x :: l => if x = c then runW c l + 1 else 0
def tailR : List Int → Nat
  | [] => 0
  | x :: l => runW x l + 1
/-- How many equal bits a row ends with. -/
def tailN (l : List Int) : Nat := tailR l.reverse
def lastB (l : List Int) : Int := l.getLast?.getD 0

theorem tailN_nil : tailN [] = 0 := rfl
theorem lastB_snoc (l : List Int) (x : Int) : lastB (l ++ [x]) = x := by simp [lastB]
theorem tailN_snoc (l : List Int) (x : Int) : tailN (l ++ [x]) = if l = [] then 1 else if lastB l = x then tailN l + 1 else 1 := by
  unfold tailN
  rw [List.reverse_append]
  rcases List.eq_nil_or_concat l with rfl | ⟨l', y, rfl⟩
  · rfl
  · rw [List.concat_eq_append, lastB_snoc, if_neg (by simp), List.reverse_append]
    simp only [List.reverse_cons, List.reverse_nil, List.nil_append, List.cons_append, tailR, runW]
    by_cases h : y = x
    · subst h; simp
    · simp [h]
theorem tailN_pos {l : List Int} (h : ¬ l = []) : 1 ≤ tailN l := by
  rcases List.eq_nil_or_concat l with rfl | ⟨l', y, rfl⟩
  · exact absurd rfl h
  · rw [List.concat_eq_append, tailN_snoc]
    split
    · omega
    · split <;> omega
theorem runW_le (c : Int) : ∀ l : List Int, runW c l ≤ l.length
  | [] => Nat.le_refl _
  | x :: l => by
    unfold runW
    have := runW_le c l
    split <;> simp <;> omega
theorem tailN_le (l : List Int) : tailN l ≤ l.length := by
  unfold tailN
  rw [← List.length_reverse]
  cases l.reverse with
  | nil => exact Nat.le_refl _
  | cons x r => have := runW_le x r; simp only [tailR, List.length_cons]; omega

/-- What a walk from the row's end tells of its tail. -/
theorem runW_walk (c : Int) : ∀ (r : List Int) (m : Nat), m ≤ r.length → (∀ j, j < m → r.getD j 0 = c) → (m = r.length ∨ ¬ r.getD m 0 = c) → runW c r = m
  | [], m, hm, _, _ => by simp at hm; subst hm; rfl
  | x :: r, 0, _, _, hs => by
    unfold runW
    rcases hs with h | h
    · simp at h
    · simp at h; rw [if_neg h]
  | x :: r, m + 1, hm, ha, hs => by
    unfold runW
    have h0 := ha 0 (by omega)
    simp at h0
    rw [if_pos h0, runW_walk c r m (by simpa using hm) (fun j hj => by have := ha (j + 1) (by omega); simpa using this) (by simpa using hs)]
theorem tail_walk {l : List Int} {m : Nat} (hne : ¬ l = []) (hm : m ≤ l.length) (ha : ∀ j, j < m → l.getD (l.length - 1 - j) 0 = l.getD (l.length - 1) 0)
    (hs : m = l.length ∨ ¬ l.getD (l.length - 1 - m) 0 = l.getD (l.length - 1) 0) : tailN l = m := by
  have hpos : 0 < l.length := by
    rcases Nat.eq_zero_or_pos l.length with h | h
    · exact absurd (List.eq_nil_of_length_eq_zero h) hne
    · exact h
  have hrev : ∀ j, j < l.length → l.reverse.getD j 0 = l.getD (l.length - 1 - j) 0 := fun j hj => by
    simp [List.getD, List.getElem?_reverse hj]
  have h1 : tailN l = runW (l.getD (l.length - 1) 0) l.reverse := by
    unfold tailN
    have h0 := hrev 0 hpos
    cases hr : l.reverse with
    | nil => rw [List.reverse_eq_nil_iff] at hr; exact absurd hr hne
    | cons x r =>
      rw [hr] at h0
      simp at h0
      simp only [tailR, runW]
      simp [h0]
  rw [h1]
  refine runW_walk _ _ m (by simpa using hm) (fun j hj => ?_) ?_
  · rw [hrev j (by omega)]; exact ha j hj
  · rcases hs with h | h
    · exact .inl (by simpa using h)
    · rcases Nat.lt_or_ge m l.length with hlt | hge
      · exact .inr (by rw [hrev m hlt]; exact h)
      · exact .inl (by simp; omega)

/-! ### What is stuffed -/
def stuffStep (out : List Int) (x : Int) : List Int := if tailN (out ++ [x % 2]) = 5 then out ++ [x % 2] ++ [1 - x % 2] else out ++ [x % 2]
def stuffL (l : List Int) : List Int := l.foldl stuffStep []
theorem stuffL_nil : stuffL [] = [] := rfl
theorem stuffL_snoc (l : List Int) (x : Int) : stuffL (l ++ [x]) = stuffStep (stuffL l) x := by simp [stuffL, List.foldl_append]

theorem stuff_bits (l : List Int) : ∀ x ∈ stuffL l, x = 0 ∨ x = 1 := by
  refine snoc_cases (P := fun l => ∀ x ∈ stuffL l, x = 0 ∨ x = 1) (by simp [stuffL]) ?_ l
  intro l y ih x hx
  rw [stuffL_snoc] at hx
  unfold stuffStep at hx
  split at hx
  · simp only [List.mem_append, List.mem_singleton] at hx
    rcases hx with (hx | hx) | hx
    · exact ih x hx
    · omega
    · omega
  · simp only [List.mem_append, List.mem_singleton] at hx
    rcases hx with hx | hx
    · exact ih x hx
    · omega
theorem stuff_range (l : List Int) : ∀ x ∈ stuffL l, 0 ≤ x ∧ x ≤ 255 := fun x hx => by have := stuff_bits l x hx; omega

/-- A stuffed row is at most a fourth longer; behind it are never five equal bits. -/
theorem stuff_size (l : List Int) : tailN (stuffL l) < 5 ∧ l.length ≤ (stuffL l).length ∧ 4 * (stuffL l).length + tailN (stuffL l) ≤ 5 * l.length := by
  refine snoc_cases (P := fun l => tailN (stuffL l) < 5 ∧ l.length ≤ (stuffL l).length ∧ 4 * (stuffL l).length + tailN (stuffL l) ≤ 5 * l.length) (by simp [stuffL, tailN_nil]) ?_ l
  intro l x ⟨h1, h2, h3⟩
  rw [stuffL_snoc]
  have ht := tailN_snoc (stuffL l) (x % 2)
  have htl : tailN (stuffL l ++ [x % 2]) ≤ tailN (stuffL l) + 1 := by
    rw [ht]; split
    · omega
    · split <;> omega
  unfold stuffStep
  split
  · rename_i h5
    have h6 : tailN (stuffL l ++ [x % 2] ++ [1 - x % 2]) = 1 := by
      rw [tailN_snoc, if_neg (by simp), lastB_snoc, if_neg (by omega)]
    rw [h6]
    simp only [List.length_append, List.length_cons, List.length_nil]
    omega
  · simp only [List.length_append, List.length_cons, List.length_nil]
    omega

/-! ### What is taken out again -/
/-- One bit more of a stuffed row: what has been taken out so far, or that there is an error. -/
def unStep (s : List Int × Option (List Int)) (x : Int) : List Int × Option (List Int) :=
  (s.1 ++ [x], match s.2 with
    | none => none
    | some out => if tailN s.1 = 5 then (if lastB s.1 = x then none else some out) else some (out ++ [x]))
def unS (l : List Int) : List Int × Option (List Int) := l.foldl unStep ([], some [])
theorem unS_snoc (l : List Int) (x : Int) : unS (l ++ [x]) = unStep (unS l) x := by simp [unS, List.foldl_append]
theorem unS_fst (l : List Int) : (unS l).1 = l := by
  refine snoc_cases (P := fun l => (unS l).1 = l) rfl ?_ l
  intro l x ih
  rw [unS_snoc]; show (unS l).1 ++ [x] = _; rw [ih]
/-- The row that is taken out of plain bits, if behind no five equal ones the same one stands. -/
def unO (l : List Int) : Option (List Int) := (unS l).2
theorem unO_nil : unO [] = some [] := rfl
theorem unO_snoc (l : List Int) (x : Int) : unO (l ++ [x]) = match unO l with
    | none => none
    | some out => if tailN l = 5 then (if lastB l = x then none else some out) else some (out ++ [x]) := by
  show (unS (l ++ [x])).2 = _
  rw [unS_snoc]
  show (match (unS l).2 with | none => none | some out => if tailN (unS l).1 = 5 then (if lastB (unS l).1 = x then none else some out) else some (out ++ [x])) = _
  rw [unS_fst]; rfl
theorem unO_snoc_none {l : List Int} {x : Int} (h : unO l = none) : unO (l ++ [x]) = none := by rw [unO_snoc, h]
theorem unO_snoc_bad {l out : List Int} {x : Int} (h : unO l = some out) (h5 : tailN l = 5) (hx : lastB l = x) : unO (l ++ [x]) = none := by rw [unO_snoc, h]; simp only; rw [if_pos h5, if_pos hx]
theorem unO_snoc_skip {l out : List Int} {x : Int} (h : unO l = some out) (h5 : tailN l = 5) (hx : ¬ lastB l = x) : unO (l ++ [x]) = some out := by rw [unO_snoc, h]; simp only; rw [if_pos h5, if_neg hx]
theorem unO_snoc_keep {l out : List Int} {x : Int} (h : unO l = some out) (h5 : ¬ tailN l = 5) : unO (l ++ [x]) = some (out ++ [x]) := by rw [unO_snoc, h]; simp only; rw [if_neg h5]
theorem unO_take_none {l : List Int} {j : Nat} (h : unO (l.take j) = none) : unO l = none := by
  have : ∀ m, j ≤ m → unO (l.take m) = none := by
    intro m hm
    induction m with
    | zero =>
      have hj : j = 0 := by omega
      rw [← hj]; exact h
    | succ m ih =>
      rcases Nat.lt_or_ge m j with h1 | h1
      · obtain rfl : j = m + 1 := by omega
        exact h
      · rcases Nat.lt_or_ge m l.length with h2 | h2
        · rw [List.take_succ_eq_append_getElem h2]; exact unO_snoc_none (ih h1)
        · rw [List.take_of_length_le (by omega)]; have := ih h1; rwa [List.take_of_length_le (by omega)] at this
  rcases Nat.lt_or_ge j l.length with h1 | h1
  · have := this l.length (by omega); rwa [List.take_length] at this
  · rwa [List.take_of_length_le h1] at h
/-- What Unstuff answers: the row, and the error. -/
def unA (l : List Int) : List Int := match unO (pl l) with
  | none => []
  | some out => if tailN (pl l) = 5 then [] else out
def unE (l : List Int) : Int := match unO (pl l) with
  | none => 9
  | some _ => if tailN (pl l) = 5 then 5 else 0
theorem unO_sub (l : List Int) : ∀ out, unO l = some out → out.length ≤ l.length ∧ ∀ x ∈ out, x ∈ l := by
  refine snoc_cases (P := fun l => ∀ out, unO l = some out → out.length ≤ l.length ∧ ∀ x ∈ out, x ∈ l) ?_ ?_ l
  · intro out h; rw [unO_nil] at h; cases h; simp
  · intro l x ih out h
    cases hl : unO l with
    | none => rw [unO_snoc_none hl] at h; cases h
    | some o =>
      obtain ⟨i1, i2⟩ := ih o hl
      by_cases h5 : tailN l = 5
      · by_cases hx : lastB l = x
        · rw [unO_snoc_bad hl h5 hx] at h; cases h
        · rw [unO_snoc_skip hl h5 hx] at h; cases h
          exact ⟨by simp; omega, fun y hy => by simp [i2 y hy]⟩
      · rw [unO_snoc_keep hl h5] at h; cases h
        refine ⟨by simp; omega, fun y hy => ?_⟩
        simp only [List.mem_append, List.mem_singleton] at hy ⊢
        rcases hy with hy | hy
        · exact .inl (i2 y hy)
        · exact .inr hy
theorem unA_bits (l : List Int) : ∀ x ∈ unA l, x = 0 ∨ x = 1 := by
  intro x hx
  unfold unA at hx
  cases h : unO (pl l) with
  | none => simp [h] at hx
  | some o =>
    simp only [h] at hx
    split at hx
    · simp at hx
    · exact pl_bits l x ((unO_sub _ o h).2 x hx)
theorem unA_range (l : List Int) : ∀ x ∈ unA l, 0 ≤ x ∧ x ≤ 255 := fun x hx => by have := unA_bits l x hx; omega

/-! ### There and back -/
theorem un_stuff (l : List Int) : unO (stuffL l) = some (pl l) := by
  refine snoc_cases (P := fun l => unO (stuffL l) = some (pl l)) rfl ?_ l
  intro l x ih
  have h4 := (stuff_size l).1
  have hk := unO_snoc_keep (x := x % 2) ih (by omega)
  have hp : pl (l ++ [x]) = pl l ++ [x % 2] := by simp [pl]
  rw [stuffL_snoc, hp]
  unfold stuffStep
  split
  · rename_i h5
    exact unO_snoc_skip hk h5 (by rw [lastB_snoc]; omega)
  · exact hk
theorem un_back (l : List Int) : unA (stuffL l) = pl l ∧ unE (stuffL l) = 0 := by
  have h4 := (stuff_size l).1
  have hp : pl (stuffL l) = stuffL l := pl_of_bits (stuff_bits l)
  unfold unA unE
  rw [hp, un_stuff]
  simp only
  rw [if_neg (by omega), if_neg (by omega)]
  exact ⟨rfl, rfl⟩
theorem tailN_snoc_le (l : List Int) (x : Int) : tailN (l ++ [x]) ≤ tailN l + 1 := by
  rw [tailN_snoc]; split
  · omega
  · split <;> omega
theorem lastB_mem {l : List Int} (h : ¬ l = []) : lastB l ∈ l := by
  rcases List.eq_nil_or_concat l with rfl | ⟨l', y, rfl⟩
  · exact absurd rfl h
  · rw [List.concat_eq_append, lastB_snoc]; simp
/-- What is taken out of a row, stuffed again, is the row so far. -/
theorem stuff_un (l : List Int) : (∀ x ∈ l, x = 0 ∨ x = 1) → ∀ out, unO l = some out → tailN l ≤ 5 ∧ (tailN l = 5 → stuffL out = l ++ [1 - lastB l]) ∧ (tailN l < 5 → stuffL out = l) := by
  refine snoc_cases (P := fun l => (∀ x ∈ l, x = 0 ∨ x = 1) → ∀ out, unO l = some out → tailN l ≤ 5 ∧ (tailN l = 5 → stuffL out = l ++ [1 - lastB l]) ∧ (tailN l < 5 → stuffL out = l)) ?_ ?_ l
  · intro _ out h; rw [unO_nil] at h; cases h; exact ⟨by simp [tailN_nil], by simp [tailN_nil], fun _ => rfl⟩
  · intro l x ih hb out h
    have hb' : ∀ y ∈ l, y = 0 ∨ y = 1 := fun y hy => hb y (by simp [hy])
    have hx := hb x (by simp)
    cases hl : unO l with
    | none => rw [unO_snoc_none hl] at h; cases h
    | some o =>
      obtain ⟨i1, i2, i3⟩ := ih hb' o hl
      by_cases h5 : tailN l = 5
      · by_cases he : lastB l = x
        · rw [unO_snoc_bad hl h5 he] at h; cases h
        · rw [unO_snoc_skip hl h5 he] at h; cases h
          have hne : ¬ l = [] := fun e => by rw [e, tailN_nil] at h5; omega
          have hlb := hb' _ (lastB_mem hne)
          have ht : tailN (l ++ [x]) = 1 := by rw [tailN_snoc, if_neg hne, if_neg he]
          refine ⟨by omega, fun h => by omega, fun _ => ?_⟩
          rw [i2 h5, show 1 - lastB l = x by omega]
      · rw [unO_snoc_keep hl h5] at h; cases h
        have hle := tailN_snoc_le l x
        have hs : stuffL (o ++ [x]) = stuffStep l x := by rw [stuffL_snoc, i3 (by omega)]
        have hxx : x % 2 = x := by omega
        refine ⟨by omega, fun h => ?_, fun h => ?_⟩
        · rw [hs, lastB_snoc]; unfold stuffStep; rw [hxx, if_pos h]
        · rw [hs]; unfold stuffStep; rw [hxx, if_neg (by omega)]
theorem un_again {l : List Int} (h : unE l = 0) : stuffL (unA l) = pl l := by
  unfold unE at h
  unfold unA
  cases ho : unO (pl l) with
  | none => simp [ho] at h
  | some out =>
    simp only [ho] at h ⊢
    by_cases h5 : tailN (pl l) = 5
    · rw [if_pos h5] at h; omega
    · rw [if_neg h5]
      have hs := stuff_un (pl l) (pl_bits l) out ho
      exact hs.2.2 (by omega)
end Go.Proofs.Ytkgnhmddnfmhjaa