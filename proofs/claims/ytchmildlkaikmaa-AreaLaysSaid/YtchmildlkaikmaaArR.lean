/- Laying all is adding the document's entries, one after the other. -/
import Derived.Test.YtchmildlkaikmaaArQ
namespace Go.Proofs.Ytchmildlkaikmaa
open Go.RowKit
set_option linter.unusedSimpArgs false
set_option linter.unusedVariables false
def stE (x : Int × Ent) (T : List (Int × Ent)) : Int := addE (x.1 / 256) (x.1 % 256) x.2.k x.2.a x.2.lo x.2.hi x.2.b T
def stT (x : Int × Ent) (T : List (Int × Ent)) : List (Int × Ent) := addT (x.1 / 256) (x.1 % 256) x.2.k x.2.a x.2.lo x.2.hi x.2.b T
/-- All are added, up to the first that is not. -/
def foldO : List (Int × Ent) → List (Int × Ent) → Int × List (Int × Ent)
  | [], T => (0, T)
  | x :: l, T => if stE x T = 0 then foldO l (stT x T) else (stE x T, T)
theorem foldO_cons (x : Int × Ent) (l T : List (Int × Ent)) : foldO (x :: l) T = if stE x T = 0 then foldO l (stT x T) else (stE x T, T) := rfl
theorem foldO_app : ∀ (l m : List (Int × Ent)) (T : List (Int × Ent)), foldO (l ++ m) T = if (foldO l T).1 = 0 then foldO m (foldO l T).2 else foldO l T
  | [], m, T => by simp [foldO]
  | x :: l, m, T => by
    rw [List.cons_append, foldO_cons, foldO_cons]
    by_cases h : stE x T = 0
    · rw [if_pos h, if_pos h]; exact foldO_app l m _
    · rw [if_neg h, if_neg h, if_neg h]
def flatO (i : Int) : Nat → List Sp → List (Int × Nat × Sp)
  | _, [] => []
  | s, x :: l => (i, s, x) :: flatO i (s + 1) l
def flatL : List (Int × List Sp) → List (Int × Nat × Sp)
  | [] => []
  | x :: r => flatO x.1 0 x.2 ++ flatL r
def ent3 (y : Int × Nat × Sp) : Int × Ent := entO y.1 (y.2.1 : Int) y.2.2.1 y.2.2.2.1 y.2.2.2.2.1 y.2.2.2.2.2
def okY (y : Int × Nat × Sp) : Bool := decide ((ent3 y).1 / 256 = y.1 ∧ (ent3 y).1 % 256 = (y.2.1 : Int) ∧ ¬ (ent3 y).2.b = [] ∧ firL y.2.2.1 y.2.2.2.1 y.2.2.2.2.1 y.2.2.2.2.2 = (ent3 y).2.b)
theorem step_eq {y : Int × Nat × Sp} (h : okY y = true) (T : List (Int × Ent)) : addE y.1 (y.2.1 : Int) y.2.2.1 y.2.2.2.1 y.2.2.2.2.1 y.2.2.2.2.2 [] T = stE (ent3 y) T ∧ addT y.1 (y.2.1 : Int) y.2.2.1 y.2.2.2.1 y.2.2.2.2.1 y.2.2.2.2.2 [] T = stT (ent3 y) T := by
  obtain ⟨h1, h2, h3, h4⟩ := of_decide_eq_true h
  have hf : firA y.2.2.1 y.2.2.2.1 y.2.2.2.2.1 y.2.2.2.2.2 [] = firA y.2.2.1 y.2.2.2.1 y.2.2.2.2.1 y.2.2.2.2.2 (ent3 y).2.b := by
    unfold firA
    rw [if_pos rfl, if_neg h3, h4]
  have e1 : addE y.1 (y.2.1 : Int) y.2.2.1 y.2.2.2.1 y.2.2.2.2.1 y.2.2.2.2.2 [] T = stE (ent3 y) T := by
    unfold stE
    rw [h1, h2]
    unfold addE
    rw [hf]; rfl
  refine ⟨e1, ?_⟩
  unfold stE at e1
  unfold stT
  rw [h1, h2] at e1 ⊢
  unfold addT
  rw [e1, hf]; rfl
theorem addsR_fold (i : Int) : ∀ (l : List Sp) (s : Nat) (T : List (Int × Ent)), (∀ y ∈ flatO i s l, okY y = true) → addsR i s l T = foldO ((flatO i s l).map ent3) T
  | [], _, _, _ => rfl
  | x :: l, s, T, h => by
    obtain ⟨e1, e2⟩ := step_eq (h (i, s, x) (List.mem_cons_self ..)) T
    dsimp only at e1 e2
    show addsR i s (x :: l) T = foldO (ent3 (i, s, x) :: (flatO i (s + 1) l).map ent3) T
    rw [foldO_cons]
    unfold addsR
    rw [e1, e2, addsR_fold i l (s + 1) _ (fun y hy => h y (List.mem_cons_of_mem _ hy))]
theorem layR_fold : ∀ (L : List (Int × List Sp)) (T : List (Int × Ent)), (∀ y ∈ flatL L, okY y = true) → layR L T = foldO ((flatL L).map ent3) T
  | [], _, _ => rfl
  | x :: r, T, h => by
    show layR (x :: r) T = foldO ((flatO x.1 0 x.2 ++ flatL r).map ent3) T
    rw [List.map_append, foldO_app, ← addsR_fold x.1 x.2 0 T (fun y hy => h y (List.mem_append.2 (.inl hy)))]
    unfold layR
    rw [layR_fold r _ (fun y hy => h y (List.mem_append.2 (.inr hy)))]
set_option maxRecDepth 100000 in
theorem flat_ok : ∀ y ∈ flatL objL, okY y = true := by decide +kernel
set_option maxRecDepth 100000 in
theorem flat_rows : (flatL objL).map ent3 = rowsO := by decide +kernel
theorem lay_rows (T : List (Int × Ent)) : layR objL T = foldO rowsO T := by rw [layR_fold objL T flat_ok, flat_rows]
theorem rowsO_len : rowsO.length = 70 := by decide +kernel
theorem foldO_drop {q : Nat} {x : Int × Ent} (h : rowsO[q]? = some x) (T : List (Int × Ent)) : foldO (rowsO.drop q) T = if stE x T = 0 then foldO (rowsO.drop (q + 1)) (stT x T) else (stE x T, T) := by
  rw [drop_at h]; rfl
/-- What an entry of the section is. -/
def okR (x : Int × Ent) : Bool := decide ((256 ≤ x.1 ∧ x.1 ≤ 16777215) ∧ x.2.b.length ≤ 64 ∧ ∀ y ∈ x.2.b, 0 ≤ y ∧ y ≤ 255)
theorem rowsO_ok : ∀ x ∈ rowsO, okR x = true := by decide +kernel
theorem stT_bad {x : Int × Ent} {T : List (Int × Ent)} (h : ¬ stE x T = 0) : stT x T = T := by
  unfold stT addT; exact if_neg h
end Go.Proofs.Ytchmildlkaikmaa
