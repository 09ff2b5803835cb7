/- What the steps of Pack keep: the identifiers that some filters let pass, each by one of them. -/
import Derived.Test.YtjofgomnnpeepaaGe
namespace Go.Proofs.Ytjofgomnnpeepaa
open Go.RowKit Go.Sort

/-- A pair put together. -/
def nxt (M : Nat → Int) (a i : Nat) (q : Nat) : Int := if q = a then M a - ((2 ^ i : Nat) : Int) else if q = a ||| 2 ^ i then -1 else M q
def First (M : Nat → Int) (a i : Nat) : Prop := a < 2048 ∧ i < 11 ∧ Good M a i ∧ ∀ b j, b < 2048 → j < 11 → Good M b j → a < b ∨ (a = b ∧ i ≤ j)
def NoPair (M : Nat → Int) : Prop := ∀ b j, b < 2048 → j < 11 → ¬ Good M b j
inductive Reach (M0 : Nat → Int) : (Nat → Int) → Prop
  | start : Reach M0 M0
  | step {M : Nat → Int} {a i : Nat} : Reach M0 M → First M a i → Reach M0 (nxt M a i)
theorem first_unique {M : Nat → Int} {a i b j : Nat} (h : First M a i) (k : First M b j) : a = b ∧ i = j := by
  obtain ⟨h1, h2, h3, h4⟩ := h
  obtain ⟨k1, k2, k3, k4⟩ := k
  have x := h4 b j k1 k2 k3
  have y := k4 a i h1 h2 h3
  omega
/-- From a first pair on. -/
theorem reach_at {M0 : Nat → Int} {a i : Nat} (hf : First M0 a i) {M : Nat → Int} (h : Reach M0 M) (hn : NoPair M) : Reach (nxt M0 a i) M := by
  have key : ∀ M, Reach M0 M → M = M0 ∨ Reach (nxt M0 a i) M := by
    intro M h
    induction h with
    | start => exact .inl rfl
    | step h1 h2 ih =>
      rcases ih with rfl | ih
      · obtain ⟨rfl, rfl⟩ := first_unique hf h2
        exact .inr .start
      · exact .inr (.step ih h2)
  rcases key M h with rfl | h1
  · exact absurd hf.2.2.1 (hn a i hf.1 hf.2.1)
  · exact h1
theorem reach_end {M0 M : Nat → Int} (hn : NoPair M0) (h : Reach M0 M) : M = M0 := by
  induction h with
  | start => rfl
  | step h1 h2 ih => subst ih; exact absurd h2.2.2.1 (hn _ _ h2.1 h2.2.1)

/-! ### Bits -/
theorem under_iff (k a id : Nat) : id &&& k = a &&& k ↔ ∀ j, k.testBit j = true → id.testBit j = a.testBit j := by
  constructor
  · intro h j hj
    have := congrArg (fun x => x.testBit j) h
    simpa [hj] using this
  · intro h
    apply Nat.eq_of_testBit_eq
    intro j
    cases hk : k.testBit j with
    | false => simp [hk]
    | true => simp [hk, h j hk]
theorem sub_bit_nat : ∀ (x : Fin 64) (y : Fin 32) (i : Fin 11), (32 * x.val + y.val).testBit i.val = true → 32 * x.val + y.val - 2 ^ i.val = (32 * x.val + y.val) ^^^ 2 ^ i.val := by decide +kernel
theorem sub_bit {k i : Nat} (hk : k < 2048) (hi : i < 11) (h : k.testBit i = true) : k - 2 ^ i = k ^^^ 2 ^ i := by
  have := sub_bit_nat ⟨k / 32, by omega⟩ ⟨k % 32, by omega⟩ ⟨i, hi⟩
  simp only [show 32 * (k / 32) + k % 32 = k by omega] at this
  exact this h
theorem pow_le_of_bit {k i : Nat} (h : k.testBit i = true) : 2 ^ i ≤ k := Nat.ge_two_pow_of_testBit h
theorem sub_testBit {k i : Nat} (hk : k < 2048) (hi : i < 11) (h : k.testBit i = true) (j : Nat) : (k - 2 ^ i).testBit j = (k.testBit j && decide (j ≠ i)) := by
  rw [sub_bit hk hi h, Nat.testBit_xor, Nat.testBit_two_pow]
  by_cases e : i = j
  · subst e; simp [h]
  · have e' : ¬ j = i := fun h => e h.symm
    simp [e, e']
theorem or_testBit (a i j : Nat) : (a ||| 2 ^ i).testBit j = (a.testBit j || decide (i = j)) := by rw [Nat.testBit_or, Nat.testBit_two_pow]
/-- What the one that stays lets pass. -/
theorem under_step {k a i id : Nat} (hk : k < 2048) (hi : i < 11) (h : k.testBit i = true) (ha : a.testBit i = false) :
    id &&& (k - 2 ^ i) = a &&& (k - 2 ^ i) ↔ (id &&& k = a &&& k ∨ id &&& k = (a ||| 2 ^ i) &&& k) := by
  rw [under_iff, under_iff, under_iff]
  constructor
  · intro hu
    cases hb : id.testBit i with
    | false =>
      refine .inl fun j hj => ?_
      by_cases e : j = i
      · subst e; rw [hb, ha]
      · exact hu j (by rw [sub_testBit hk hi h, hj]; simp [e])
    | true =>
      refine .inr fun j hj => ?_
      rw [or_testBit]
      by_cases e : j = i
      · subst e; rw [hb]; simp
      · rw [hu j (by rw [sub_testBit hk hi h, hj]; simp [e])]
        have e' : ¬ i = j := fun h => e h.symm
        simp [e']
  · rintro (hu | hu) j hj
    · rw [sub_testBit hk hi h] at hj
      simp only [Bool.and_eq_true] at hj
      exact hu j hj.1
    · rw [sub_testBit hk hi h] at hj
      simp only [Bool.and_eq_true, decide_eq_true_eq] at hj
      have e' : ¬ i = j := fun h => hj.2 h.symm
      rw [hu j hj.1, or_testBit]
      simp [e']
/-- What a pair's second one is. -/
theorem second_ne {a i : Nat} (ha : a.testBit i = false) : a ||| 2 ^ i ≠ a := by
  intro e
  have := congrArg (fun x => x.testBit i) e
  simp [ha] at this
theorem second_lt {a i : Nat} (ha : a < 2048) (hi : i < 11) : a ||| 2 ^ i < 2048 :=
  Nat.or_lt_two_pow (n := 11) ha (Nat.pow_lt_pow_right (by omega) hi)

/-- What all masks have at every time: for identifiers S. -/
structure Inv (S : Nat → Prop) (M : Nat → Int) : Prop where
  fit : Fit M
  has : ∀ id, id < 2048 → (S id ↔ ∃ a k : Nat, a < 2048 ∧ M a = k ∧ id &&& k = a &&& k)
  one : ∀ a b k k' id : Nat, a < 2048 → b < 2048 → id < 2048 → M a = k → M b = k' → id &&& k = a &&& k → id &&& k' = b &&& k' → a = b
theorem nxt_fit {M : Nat → Int} {a i : Nat} (hF : Fit M) (h : First M a i) : Fit (nxt M a i) := by
  obtain ⟨ha, hi, ⟨k, hk, hb, hab, hr⟩, _⟩ := h
  intro q hq
  unfold nxt
  by_cases e : q = a
  · subst e
    rw [if_pos rfl, hk]
    have hp := pow_le_of_bit hb
    rcases hF q hq with h1 | ⟨k2, h1, h2⟩
    · rw [hk] at h1; omega
    · have hkk : k2 = k := by rw [hk] at h2; omega
      rw [hkk] at h1
      generalize 2 ^ i = z at hp ⊢
      exact .inr ⟨k - z, by omega, by omega⟩
  · rw [if_neg e]
    by_cases e2 : q = a ||| 2 ^ i
    · rw [if_pos e2]; exact .inl rfl
    · rw [if_neg e2]; exact hF q hq
theorem good_small {M : Nat → Int} {a k : Nat} (hF : Fit M) (ha : a < 2048) (hk : M a = k) : k < 2048 := by
  rcases hF a ha with h | ⟨k2, h, h2⟩
  · rw [hk] at h; omega
  · rw [hk] at h2; omega
/-- The masks behind a step. -/
theorem nxt_mask {M : Nat → Int} {a i : Nat} (h : First M a i) {k : Nat} (hk : M a = k) (b k' : Nat) :
    nxt M a i b = k' ↔ (b = a ∧ k' = k - 2 ^ i) ∨ (b ≠ a ∧ b ≠ a ||| 2 ^ i ∧ M b = k') := by
  obtain ⟨ha, hi, ⟨k2, hk2, hb, hab, hr⟩, _⟩ := h
  have e2 : k2 = k := by rw [hk] at hk2; omega
  subst e2
  have hp := pow_le_of_bit hb
  unfold nxt
  by_cases e : b = a
  · subst e
    rw [if_pos rfl, hk]
    simp only [ne_eq, not_true, false_and, or_false, true_and]
    omega
  · rw [if_neg e]
    by_cases e2 : b = a ||| 2 ^ i
    · rw [if_pos e2]
      constructor
      · intro h; omega
      · rintro (⟨h, _⟩ | ⟨_, h, _⟩)
        · exact absurd h e
        · exact absurd e2 h
    · rw [if_neg e2]
      simp [e, e2]
theorem inv_step {S : Nat → Prop} {M : Nat → Int} {a i : Nat} (hI : Inv S M) (h : First M a i) : Inv S (nxt M a i) := by
  have h0 := h
  obtain ⟨ha, hi, ⟨k, hk, hb, hab, hr⟩, _⟩ := h0
  have hks := good_small hI.fit ha hk
  have hm := nxt_mask h hk
  have hr2 := second_lt ha hi
  have hne := second_ne hab
  have hus := fun id => under_step (id := id) hks hi hb hab
  -- what covers behind the step was covered ahead of it
  have back : ∀ b k' id : Nat, b < 2048 → nxt M a i b = k' → id &&& k' = b &&& k' → ∃ b0 k0 : Nat, b0 < 2048 ∧ M b0 = k0 ∧ id &&& k0 = b0 &&& k0 ∧ ((b = a ∧ (b0 = a ∨ b0 = a ||| 2 ^ i)) ∨ (b ≠ a ∧ b ≠ a ||| 2 ^ i ∧ b0 = b)) := by
    intro b k' id hb2 hn hu
    rcases (hm b k').1 hn with ⟨rfl, rfl⟩ | ⟨h1, h2, h3⟩
    · rcases (hus id).1 hu with h4 | h4
      · exact ⟨b, k, ha, hk, h4, .inl ⟨rfl, .inl rfl⟩⟩
      · exact ⟨_, k, hr2, hr, h4, .inl ⟨rfl, .inr rfl⟩⟩
    · exact ⟨b, k', hb2, h3, hu, .inr ⟨h1, h2, rfl⟩⟩
  refine ⟨nxt_fit hI.fit h, fun id hid => ?_, ?_⟩
  · rw [hI.has id hid]
    constructor
    · rintro ⟨b, kb, h1, h2, h3⟩
      by_cases e : b = a
      · subst e
        have : kb = k := by rw [hk] at h2; omega
        subst this
        exact ⟨b, _, h1, (hm b _).2 (.inl ⟨rfl, rfl⟩), (hus id).2 (.inl h3)⟩
      · by_cases e2 : b = a ||| 2 ^ i
        · subst e2
          have : kb = k := by rw [hr] at h2; omega
          subst this
          exact ⟨a, _, ha, (hm a _).2 (.inl ⟨rfl, rfl⟩), (hus id).2 (.inr h3)⟩
        · exact ⟨b, kb, h1, (hm b kb).2 (.inr ⟨e, e2, h2⟩), h3⟩
    · rintro ⟨b, kb, h1, h2, h3⟩
      obtain ⟨b0, k0, g1, g2, g3, _⟩ := back b kb id h1 h2 h3
      exact ⟨b0, k0, g1, g2, g3⟩
  · intro b c kb kc id hb2 hc2 hid h1 h2 h3 h4
    obtain ⟨b0, k0, g1, g2, g3, g4⟩ := back b kb id hb2 h1 h3
    obtain ⟨c0, l0, f1, f2, f3, f4⟩ := back c kc id hc2 h2 h4
    have := hI.one b0 c0 k0 l0 id g1 f1 hid g2 f2 g3 f3
    rcases g4 with ⟨x1, x2⟩ | ⟨x1, x2, x3⟩ <;> rcases f4 with ⟨y1, y2⟩ | ⟨y1, y2, y3⟩
    · rw [x1, y1]
    · rcases x2 with x2 | x2 <;> omega
    · rcases y2 with y2 | y2 <;> omega
    · omega
theorem inv_start (l : List Int) (j : Nat) : Inv (fun q => (q : Int) ∈ l.take j) (m0 l j) := by
  have h11 : ∀ id a : Nat, id < 2048 → a < 2048 → (id &&& 2047 = a &&& 2047 ↔ id = a) := fun id a h1 h2 => by
    rw [show (2047 : Nat) = 2 ^ 11 - 1 from rfl, Nat.and_two_pow_sub_one_eq_mod, Nat.and_two_pow_sub_one_eq_mod, Nat.mod_eq_of_lt h1, Nat.mod_eq_of_lt h2]
  have hmv : ∀ a k : Nat, m0 l j a = k ↔ ((a : Int) ∈ l.take j ∧ k = 2047) := fun a k => by
    unfold m0
    by_cases e : (a : Int) ∈ l.take j
    · rw [if_pos e]; simp only [e, true_and]; omega
    · rw [if_neg e]; simp only [e, false_and, iff_false]; omega
  refine ⟨fun a ha => ?_, fun id hid => ?_, ?_⟩
  · unfold m0
    by_cases e : (a : Int) ∈ l.take j
    · rw [if_pos e]; exact .inr ⟨2047, by omega, rfl⟩
    · rw [if_neg e]; exact .inl rfl
  · constructor
    · intro h
      exact ⟨id, 2047, hid, (hmv _ _).2 ⟨h, rfl⟩, rfl⟩
    · rintro ⟨a, k, ha, h1, h2⟩
      obtain ⟨h3, rfl⟩ := (hmv _ _).1 h1
      have := (h11 id a hid ha).1 h2
      subst this; exact h3
  · intro a b k k' id ha hb hid h1 h2 h3 h4
    obtain ⟨_, rfl⟩ := (hmv _ _).1 h1
    obtain ⟨_, rfl⟩ := (hmv _ _).1 h2
    rw [← (h11 id a hid ha).1 h3, ← (h11 id b hid hb).1 h4]
theorem inv_reach {S : Nat → Prop} {M0 M : Nat → Int} (hI : Inv S M0) (h : Reach M0 M) : Inv S M := by
  induction h with
  | start => exact hI
  | step _ h2 ih => exact inv_step ih h2

/-! ### Which codes have a filter -/
def codes (M : Nat → Int) (j : Nat) : List Nat := (List.range j).filter fun q => M q != -1
theorem codes_succ (M : Nat → Int) (j : Nat) : codes M (j + 1) = codes M j ++ if M j != -1 then [j] else [] := by
  unfold codes
  rw [List.range_succ, List.filter_append]
  cases h : M j != -1 <;> simp [h]
theorem codes_len (M : Nat → Int) (j : Nat) : (codes M j).length ≤ j := by
  unfold codes
  have := List.length_filter_le (fun q => M q != -1) (List.range j)
  simpa using this
theorem codes_mem {M : Nat → Int} {j a : Nat} : a ∈ codes M j ↔ a < j ∧ M a ≠ -1 := by simp [codes]
theorem filter_less (p q : Nat → Bool) : ∀ n, (∀ x, x < n → p x = true → q x = true) →
    ((List.range n).filter p).length ≤ ((List.range n).filter q).length ∧ ∀ r, r < n → q r = true → p r = false → ((List.range n).filter p).length < ((List.range n).filter q).length
  | 0, _ => ⟨Nat.le_refl _, fun r h => absurd h (Nat.not_lt_zero _)⟩
  | n + 1, h => by
    obtain ⟨h1, h2⟩ := filter_less p q n fun x hx => h x (by omega)
    have hn := h n (by omega)
    have e : ∀ f : Nat → Bool, ((List.range (n + 1)).filter f).length = ((List.range n).filter f).length + if f n then 1 else 0 := fun f => by
      rw [List.range_succ, List.filter_append, List.length_append]
      cases hf : f n <;> simp [hf]
    rw [e p, e q]
    constructor
    · cases hp : p n with
      | false => simp; omega
      | true => rw [hn hp]; simp; omega
    · intro r hr hq hp
      by_cases er : r = n
      · subst er
        rw [hq, hp]; simp; omega
      · have := h2 r (by omega) hq hp
        cases hp2 : p n with
        | false => simp; omega
        | true => rw [hn hp2]; simp; omega
/-- Each step takes one away. -/
theorem codes_less {M : Nat → Int} {a i : Nat} (h : First M a i) : (codes (nxt M a i) 2048).length < (codes M 2048).length := by
  have h0 := h
  obtain ⟨ha, hi, ⟨k, hk, hb, hab, hr⟩, _⟩ := h0
  have hr2 := second_lt ha hi
  have hne := second_ne hab
  have hz : nxt M a i (a ||| 2 ^ i) = -1 := by unfold nxt; rw [if_neg hne, if_pos rfl]
  refine (filter_less _ _ 2048 fun x _ hx => ?_).2 (a ||| 2 ^ i) hr2 ?_ ?_
  · simp only [bne_iff_ne, ne_eq] at hx ⊢
    intro e
    by_cases e2 : x = a
    · subst e2; rw [hk] at e; omega
    · by_cases e3 : x = a ||| 2 ^ i
      · subst e3; exact hx hz
      · apply hx; unfold nxt; rw [if_neg e2, if_neg e3]; exact e
  · rw [hr]; simp only [bne_iff_ne, ne_eq]; omega
  · rw [hz]; rfl
end Go.Proofs.Ytjofgomnnpeepaa
