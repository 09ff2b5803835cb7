/- Rows in an order of their own: where one stands, what is put in, what goes. Nothing of the program is named here. -/
import Derived.Test.YthofimkjemhnoaaPBTSm
namespace Go.Proofs.Ythofimkjemhnoaa
open Go.RowKit
set_option linter.unusedSimpArgs false
set_option linter.unusedVariables false
structure LinO {α : Type} (lt : α → α → Bool) : Prop where
  irr : ∀ x, lt x x = false
  tr : ∀ {x y z}, lt x y = true → lt y z = true → lt x z = true
  tri : ∀ {x y}, lt x y = false → lt y x = false → x = y
section
variable {α : Type} {lt : α → α → Bool}
def RiseT (lt : α → α → Bool) (L : List α) : Prop := L.Pairwise fun x y => lt x y = true
theorem RiseT.at {L : List α} (h : RiseT lt L) {i j : Nat} {x y : α} (hij : i < j) (hx : L[i]? = some x) (hy : L[j]? = some y) : lt x y = true := by
  obtain ⟨hi, rfl⟩ := List.getElem?_eq_some_iff.1 hx
  obtain ⟨hj, rfl⟩ := List.getElem?_eq_some_iff.1 hy
  exact List.pairwise_iff_getElem.1 h i j hi hj hij
/-- How many at the head stand ahead of one. -/
def plcT (lt : α → α → Bool) (q : α) : List α → Nat
  | [] => 0
  | x :: L => if lt x q = true then plcT lt q L + 1 else 0
theorem plcT_le (q : α) : ∀ L : List α, plcT lt q L ≤ L.length
  | [] => Nat.le_refl _
  | x :: L => by unfold plcT; have := plcT_le q L; split <;> simp <;> omega
theorem plcT_at (q : α) : ∀ (L : List α) (k : Nat), k ≤ L.length → (∀ i x, i < k → L[i]? = some x → lt x q = true) → (∀ x, L[k]? = some x → lt x q = false) → plcT lt q L = k
  | [], k, hk, _, _ => by simp at hk; subst hk; rfl
  | x :: L, 0, _, _, h => by unfold plcT; rw [if_neg (by rw [h x rfl]; simp)]
  | x :: L, k + 1, hk, h1, h => by
    unfold plcT
    rw [if_pos (h1 0 x (by omega) rfl), plcT_at q L k (by simpa using hk) (fun i y hi hy => h1 (i + 1) y (by omega) (by simpa using hy)) (fun y hy => h y (by simpa using hy))]
theorem plcT_lt (q : α) : ∀ (L : List α) (i : Nat) (x : α), i < plcT lt q L → L[i]? = some x → lt x q = true
  | [], i, x, _, h => by simp at h
  | y :: L, i, x, hi, h => by
    unfold plcT at hi
    by_cases hy : lt y q = true
    · rw [if_pos hy] at hi
      cases i with
      | zero => simp only [List.getElem?_cons_zero, Option.some.injEq] at h; subst h; exact hy
      | succ i => exact plcT_lt q L i x (by omega) (by simpa using h)
    · rw [if_neg hy] at hi; omega
theorem plcT_stop (q : α) : ∀ (L : List α) (x : α), L[plcT lt q L]? = some x → lt x q = false
  | [], x, h => by simp at h
  | y :: L, x, h => by
    unfold plcT at h
    by_cases hy : lt y q = true
    · rw [if_pos hy] at h; exact plcT_stop q L x (by simpa using h)
    · rw [if_neg hy] at h; simp only [List.getElem?_cons_zero, Option.some.injEq] at h; subst h; simpa using hy
theorem plcT_mem (ho : LinO lt) {L : List α} (h : RiseT lt L) {i : Nat} {x : α} (hx : L[i]? = some x) : plcT lt x L = i :=
  plcT_at x L i (by have := (List.getElem?_eq_some_iff.1 hx).1; omega) (fun j y hj hy => h.at hj hy hx) (fun y hy => by rw [hx] at hy; cases hy; exact ho.irr x)
/-- One is put in. -/
def insT (lt : α → α → Bool) (q : α) (L : List α) : List α := L.take (plcT lt q L) ++ [q] ++ L.drop (plcT lt q L)
theorem insT_len (q : α) (L : List α) : (insT lt q L).length = L.length + 1 := by
  have := plcT_le (lt := lt) q L
  unfold insT; simp; omega
theorem insT_perm (q : α) (L : List α) : (insT lt q L).Perm (L ++ [q]) := by
  unfold insT
  rw [List.append_assoc]
  refine (List.perm_append_comm_assoc _ _ _).trans ?_
  rw [List.take_append_drop]
  exact List.perm_append_comm
theorem insT_rise (ho : LinO lt) {L : List α} (h : RiseT lt L) {q : α} (hq : q ∉ L) : RiseT lt (insT lt q L) := by
  have h1 : ∀ x ∈ L.take (plcT lt q L), lt x q = true := fun x hx => by
    obtain ⟨i, hi, e⟩ := List.mem_iff_getElem.1 hx
    rw [List.getElem_take] at e
    exact plcT_lt q L i x (by simp at hi; omega) (by rw [← e]; exact List.getElem?_eq_getElem _)
  have h2 : ∀ x ∈ L.drop (plcT lt q L), lt q x = true := fun x hx => by
    obtain ⟨i, hi, e⟩ := List.mem_iff_getElem.1 hx
    rw [List.getElem_drop] at e
    have hx2 : L[plcT lt q L + i]? = some x := by rw [← e]; exact List.getElem?_eq_getElem _
    have hlt : plcT lt q L < L.length := by have := (List.getElem?_eq_some_iff.1 hx2).1; omega
    have hs := plcT_stop q L _ (List.getElem?_eq_getElem hlt)
    have hne : lt q L[plcT lt q L] = true := by
      cases h3 : lt q L[plcT lt q L] with
      | true => rfl
      | false => exact absurd (ho.tri hs h3 ▸ List.getElem_mem hlt) hq
    rcases Nat.eq_zero_or_pos i with h0 | h0
    · subst h0
      rw [Nat.add_zero, List.getElem?_eq_getElem hlt] at hx2
      rw [← Option.some.inj hx2]; exact hne
    · exact ho.tr hne (h.at (by omega) (List.getElem?_eq_getElem hlt) hx2)
  unfold insT RiseT
  rw [List.pairwise_append, List.pairwise_append]
  refine ⟨⟨h.sublist (List.take_sublist _ _), List.pairwise_singleton _ _, fun a ha b hb => ?_⟩, h.sublist (List.drop_sublist _ _), fun a ha b hb => ?_⟩
  · simp only [List.mem_singleton] at hb; subst hb; exact h1 a ha
  · rcases List.mem_append.1 ha with ha | ha
    · exact ho.tr (h1 a ha) (h2 b hb)
    · simp only [List.mem_singleton] at ha; subst ha; exact h2 b hb
theorem RiseT.sub {L M : List α} (h : RiseT lt L) (hs : M.Sublist L) : RiseT lt M := List.Pairwise.sublist hs h
/-- Two rising lists of the same things are the same. -/
theorem RiseT.uniq (ho : LinO lt) : ∀ {L M : List α}, RiseT lt L → RiseT lt M → L.Perm M → L = M
  | [], M, _, _, hp => (List.Perm.nil_eq hp)
  | x :: L, [], _, _, hp => absurd hp.length_eq (by simp)
  | x :: L, y :: M, hL, hM, hp => by
    obtain ⟨h1, h2⟩ := List.pairwise_cons.1 hL
    obtain ⟨k1, k2⟩ := List.pairwise_cons.1 hM
    have e : x = y := by
      have hx : x ∈ y :: M := hp.mem_iff.1 (by simp)
      have hy : y ∈ x :: L := hp.mem_iff.2 (by simp)
      rcases List.mem_cons.1 hx with e | hx
      · exact e
      · rcases List.mem_cons.1 hy with e | hy
        · exact e.symm
        · have := ho.tr (h1 y hy) (k1 x hx)
          rw [ho.irr] at this; cases this
    subst e
    rw [RiseT.uniq ho h2 k2 (List.Perm.cons_inv hp)]
end
/-- Ahead: by the ticks, those of one tick by their keys. -/
def tlI (x y : Int × Int) : Bool := decide (x.2 < y.2) || (decide (x.2 = y.2) && decide (x.1 < y.1))
theorem tlI_lin : LinO tlI := by
  refine ⟨fun x => by simp [tlI], fun {x y z} h k => ?_, fun {x y} h k => ?_⟩
  · simp [tlI] at *; omega
  · simp [tlI] at *
    refine Prod.ext ?_ ?_ <;> omega
/-- What the order's function answers. -/
def orZ (a b : Int) : Int := if a = 0 then b else a
theorem tlI_neg {x y : Int × Int} : orZ (cmpI x.2 y.2) (cmpI x.1 y.1) < 0 ↔ tlI x y = true := by
  unfold orZ
  have h1 := @cmpI_neg x.2 y.2
  have h2 := @cmpI_zero x.2 y.2
  have h3 := @cmpI_neg x.1 y.1
  simp only [tlI, Bool.or_eq_true, decide_eq_true_eq, Bool.and_eq_true]
  split <;> omega
end Go.Proofs.Ythofimkjemhnoaa