/- The table by numbers beside the document's list. -/
import Derived.Test.YtgaoplbocjadaaaYDq
import Derived.Test.YtgaoplbocjadaaaYDv
namespace Go.Proofs.Ytgaoplbocjadaaa
open Go.RowKit
set_option linter.unusedSimpArgs false
set_option linter.unusedVariables false
theorem rise_uniq {T : List (Int × Ent)} (h : Rise T) {x y : Int × Ent} (hx : x ∈ T) (hy : y ∈ T) (e : x.1 = y.1) : x = y := by
  obtain ⟨i, hx2⟩ := List.mem_iff_getElem?.1 hx
  obtain ⟨j, hy2⟩ := List.mem_iff_getElem?.1 hy
  rcases Nat.lt_trichotomy i j with hij | hij | hij
  · have := h i j x y hij hx2 hy2; omega
  · subst hij; rw [hx2] at hy2; cases hy2; rfl
  · have := h j i y x hij hy2 hx2; omega
theorem hasI_iff {T : List (Int × Ent)} (h : Rise T) {q : Int} : hasI q T = true ↔ ∃ x ∈ T, x.1 = q := by
  refine ⟨fun hh => ?_, fun ⟨x, hx, hq⟩ => hq ▸ hasI_mem h hx⟩
  obtain ⟨x, hx, hq⟩ := hasI_at hh
  exact ⟨x, List.mem_of_getElem? hx, hq⟩
theorem thI_of {T : List (Int × Ent)} (h : Rise T) {x : Int × Ent} (hx : x ∈ T) : thI e0 x.1 T = x.2 := by
  obtain ⟨y, hy, hq⟩ := hasI_at (hasI_mem h hx)
  rw [thI_yes (hasI_mem h hx) hy, rise_uniq h (List.mem_of_getElem? hy) hx hq]
theorem putI_new (k : Int) (v : Ent) (T : List (Int × Ent)) : (k, v) ∈ putI k v T := by
  unfold putI
  split
  · rename_i hh
    obtain ⟨x, hx, _⟩ := hasI_at hh
    exact List.mem_of_getElem? (i := plcI k T) (by rw [List.getElem?_set, if_pos rfl, if_pos (List.getElem?_eq_some_iff.1 hx).1])
  · simp
theorem putI_old (k : Int) (v : Ent) (T : List (Int × Ent)) (x : Int × Ent) (hx : x ∈ T) (hne : x.1 ≠ k) : x ∈ putI k v T := by
  unfold putI
  split
  · rename_i hh
    obtain ⟨i, hi, e⟩ := List.mem_iff_getElem.1 hx
    obtain ⟨y, hy, hk⟩ := hasI_at hh
    refine List.mem_of_getElem? (i := i) ?_
    rw [List.getElem?_set, if_neg]
    · rw [← e]; exact List.getElem?_eq_getElem _
    · intro e2
      subst e2
      rw [List.getElem?_eq_getElem hi, e] at hy
      cases hy
      exact hne hk
  · rw [← List.take_append_drop (plcI k T) T] at hx
    rcases List.mem_append.1 hx with h | h <;> simp [h]
theorem putI_from {k : Int} {v : Ent} {T : List (Int × Ent)} {x : Int × Ent} (hx : x ∈ putI k v T) : x ∈ T ∨ x = (k, v) := by
  unfold putI at hx
  split at hx
  · exact List.mem_or_eq_of_mem_set hx
  · rcases List.mem_append.1 hx with h | h
    · rcases List.mem_append.1 h with h | h
      · exact .inl (List.mem_of_mem_take h)
      · exact .inr (List.mem_singleton.1 h)
    · exact .inl (List.mem_of_mem_drop h)
theorem putI_mem {k : Int} {v : Ent} {T : List (Int × Ent)} (h : Rise T) (x : Int × Ent) : x ∈ putI k v T ↔ x = (k, v) ∨ (x ∈ T ∧ x.1 ≠ k) := by
  constructor
  · intro hx
    by_cases hk : x.1 = k
    · exact .inl (rise_uniq (rise_put k v T h) hx (putI_new k v T) hk)
    · rcases putI_from hx with h1 | h1
      · exact .inr ⟨h1, hk⟩
      · exact .inl h1
  · rintro (rfl | ⟨h1, h2⟩)
    · exact putI_new _ _ _
    · exact putI_old _ _ _ _ h1 h2
theorem putI_len_old {k : Int} {v : Ent} {T : List (Int × Ent)} (h : hasI k T = true) : (putI k v T).length = T.length := by unfold putI; rw [if_pos h, List.length_set]
theorem putI_len_new {k : Int} {v : Ent} {T : List (Int × Ent)} (h : hasI k T = false) : (putI k v T).length = T.length + 1 := by
  have := plcI_le k T
  unfold putI; rw [if_neg (by simp [h])]; simp; omega
/-- The same entries: T by their numbers, R as the document has them. -/
structure TieD (T R : List (Int × Ent)) : Prop where
  good : Good T
  mem : ∀ x, x ∈ T ↔ x ∈ R
  len : T.length = R.length
  dis : ∀ (p p' : Nat) (x y : Int × Ent), R[p]? = some x → R[p']? = some y → x.1 = y.1 → p = p'
theorem tieD_nil : TieD [] [] := ⟨⟨rise_nil, by simp, by simp⟩, fun _ => Iff.rfl, rfl, by simp⟩
section
variable {T R : List (Int × Ent)} {q : Int} {E : Ent} {p : Nat} {x : Int × Ent}
theorem TieD.ok (h : TieD T R) : ∀ x ∈ R, okE x := fun x hx => h.good.ok x ((h.mem x).2 hx)
theorem TieD.has (h : TieD T R) : hasI q T = true ↔ ∃ x ∈ R, x.1 = q := by
  rw [hasI_iff h.good.rise]
  exact ⟨fun ⟨x, hx, e⟩ => ⟨x, (h.mem x).1 hx, e⟩, fun ⟨x, hx, e⟩ => ⟨x, (h.mem x).2 hx, e⟩⟩
theorem TieD.hasnt (h : TieD T R) (hn : ∀ x ∈ R, ¬ x.1 = q) : hasI q T = false := by
  cases hh : hasI q T with
  | false => rfl
  | true => obtain ⟨x, hx, e⟩ := h.has.1 hh; exact absurd e (hn x hx)
theorem TieD.at_ (h : TieD T R) (hx : R[p]? = some x) : hasI x.1 T = true ∧ thI e0 x.1 T = x.2 :=
  ⟨h.has.2 ⟨x, List.mem_of_getElem? hx, rfl⟩, thI_of h.good.rise ((h.mem x).2 (List.mem_of_getElem? hx))⟩
theorem TieD.add (h : TieD T R) (hq : hasI q T = false) (hE : okE (q, E)) (hl : T.length < 600) : TieD (putI q E T) (R ++ [(q, E)]) := by
  have hno : ∀ x ∈ R, ¬ x.1 = q := fun x hx e => by
    have := h.has.2 ⟨x, hx, e⟩
    rw [hq] at this; cases this
  refine ⟨⟨rise_put _ _ _ h.good.rise, by rw [putI_len_new hq]; omega, fun x hx => ?_⟩, fun x => ?_, by rw [putI_len_new hq, List.length_append, h.len]; rfl, fun p p' x y hx hy e => ?_⟩
  · rcases putI_from hx with h1 | rfl
    · exact h.good.ok x h1
    · exact hE
  · rw [putI_mem h.good.rise, List.mem_append, List.mem_singleton, h.mem]
    constructor
    · rintro (h1 | ⟨h1, _⟩)
      · exact .inr h1
      · exact .inl h1
    · rintro (h1 | h1)
      · exact .inr ⟨h1, hno x h1⟩
      · exact .inl h1
  · have key : ∀ (p : Nat) (x : Int × Ent), (R ++ [(q, E)])[p]? = some x → R[p]? = some x ∨ (p = R.length ∧ x = (q, E)) := fun p x hx => by
      by_cases hp : p < R.length
      · rw [List.getElem?_append_left hp] at hx; exact .inl hx
      · rw [List.getElem?_append_right (by omega)] at hx
        have hp2 := (List.getElem?_eq_some_iff.1 hx).1
        simp at hp2
        have hp3 : p = R.length := by omega
        subst hp3
        simp at hx
        exact .inr ⟨rfl, hx.symm⟩
    rcases key p x hx with h1 | ⟨h1, rfl⟩ <;> rcases key p' y hy with h2 | ⟨h2, rfl⟩
    · exact h.dis p p' x y h1 h2 e
    · exact absurd e (hno x (List.mem_of_getElem? h1))
    · exact absurd e.symm (hno y (List.mem_of_getElem? h2))
    · omega
theorem TieD.set (h : TieD T R) (hx : R[p]? = some x) (hE : okE (x.1, E)) : TieD (putI x.1 E T) (R.set p (x.1, E)) := by
  have hh := (h.at_ hx).1
  have hp := (List.getElem?_eq_some_iff.1 hx).1
  have key : ∀ (k : Nat) (y : Int × Ent), (R.set p (x.1, E))[k]? = some y → (k = p ∧ y = (x.1, E)) ∨ (¬ k = p ∧ R[k]? = some y) := fun k y hy => by
    rw [List.getElem?_set] at hy
    by_cases e : p = k
    · subst e
      rw [if_pos rfl, if_pos hp] at hy
      cases hy; exact .inl ⟨rfl, rfl⟩
    · rw [if_neg e] at hy; exact .inr ⟨fun e2 => e e2.symm, hy⟩
  refine ⟨⟨rise_put _ _ _ h.good.rise, by rw [putI_len_old hh]; exact h.good.few, fun y hy => ?_⟩, fun y => ?_, by rw [putI_len_old hh, List.length_set, h.len], fun k k' y z hy hz e => ?_⟩
  · rcases putI_from hy with h1 | rfl
    · exact h.good.ok y h1
    · exact hE
  · rw [putI_mem h.good.rise]
    constructor
    · rintro (rfl | ⟨h1, h2⟩)
      · exact List.mem_of_getElem? (i := p) (by rw [List.getElem?_set, if_pos rfl, if_pos hp])
      · obtain ⟨k, hk⟩ := List.mem_iff_getElem?.1 ((h.mem y).1 h1)
        refine List.mem_of_getElem? (i := k) ?_
        rw [List.getElem?_set, if_neg]
        · exact hk
        · intro e; subst e; rw [hx] at hk; cases hk; exact h2 rfl
    · intro hy
      obtain ⟨k, hk⟩ := List.mem_iff_getElem?.1 hy
      rcases key k y hk with ⟨_, h1⟩ | ⟨h1, h2⟩
      · exact .inl h1
      · exact .inr ⟨(h.mem y).2 (List.mem_of_getElem? h2), fun e => h1 (h.dis k p y x h2 hx e)⟩
  · rcases key k y hy with ⟨h1, rfl⟩ | ⟨h1, h2⟩ <;> rcases key k' z hz with ⟨h3, rfl⟩ | ⟨h3, h4⟩
    · omega
    · exact absurd (h.dis k' p z x h4 hx e.symm) h3
    · exact absurd (h.dis k p y x h2 hx e) h1
    · exact h.dis k k' y z h2 h4 e
theorem TieD.subs (h : TieD T R) (i : Int) : subsL i T = [] ↔ ∀ x ∈ R, ¬ x.1 / 256 = i := by
  unfold subsL rowsX
  rw [List.map_eq_nil_iff]
  constructor
  · intro hn x hx e
    have hxT := (h.mem x).2 hx
    have hxo := (h.good.ok x hxT).1
    obtain ⟨k, hk⟩ := List.mem_iff_getElem?.1 hxT
    have hnum : numI i 0 = i * 256 + 0 := numI_yes (by omega)
    have hge : plcI (numI i 0) T ≤ k := by
      refine Nat.le_of_not_lt fun hlt => ?_
      have := plcI_lt _ T k x hlt hk
      omega
    have hkl := (List.getElem?_eq_some_iff.1 hk).1
    have hpl : plcI (numI i 0) T < T.length := by omega
    obtain ⟨y, hy⟩ : ∃ y, T[plcI (numI i 0) T]? = some y := ⟨_, List.getElem?_eq_getElem hpl⟩
    have hye : T[plcI (numI i 0) T] = y := (List.getElem?_eq_some_iff.1 hy).2
    have hst := plcI_stop _ T _ hy
    have hyo := (h.good.ok _ (List.mem_of_getElem? hy)).1
    have hle : y.1 ≤ x.1 := by
      rcases Nat.lt_or_ge (plcI (numI i 0) T) k with h1 | h1
      · exact Int.le_of_lt (h.good.rise _ _ _ _ h1 hy hk)
      · have h2 : plcI (numI i 0) T = k := by omega
        rw [h2, hk] at hy
        cases hy
        exact Int.le_refl _
    rw [List.drop_eq_getElem_cons hpl, hye, List.takeWhile_cons_of_pos (by unfold inIx; rw [aN_eq (by omega) hyo.2]; exact decide_eq_true (by omega))] at hn
    cases hn
  · intro hn
    cases hd : T.drop (plcI (numI i 0) T) with
    | nil => rfl
    | cons y l =>
      have hyT : y ∈ T := List.mem_of_mem_drop (by rw [hd]; exact List.mem_cons_self)
      have hyo := (h.good.ok y hyT).1
      refine List.takeWhile_cons_of_neg ?_
      unfold inIx
      rw [aN_eq (by omega) hyo.2, decide_eq_false (hn y ((h.mem y).1 hyT))]
      simp
end
end Go.Proofs.Ytgaoplbocjadaaa