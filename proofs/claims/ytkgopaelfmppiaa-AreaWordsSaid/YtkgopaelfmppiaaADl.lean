/- What the function that Subs hands back does. -/
import Derived.Test.YtkgopaelfmppiaaADk
namespace Go.Proofs.Ytkgopaelfmppiaa
open Go.RowKit Go.Shelf
set_option linter.unusedSimpArgs false
set_option linter.unusedVariables false
theorem wp_nopanic {P : Program} {c : Code} {next : Act → World → Prop} {Q : Exit → Act → World → Prop} {a : Act} {w : World} (h : c.wp P (Exit.then next (fun _ _ _ => False)) a w) : c.wp P (Exit.then next Q) a w :=
  wp_mono h (fun e a w hh => by cases e with | normal => exact hh | _ => exact absurd hh id)
def subI (x : Int × Ent) : Int := bN x.1
/-- The rows of one Index, from a place on. -/
def inIx (idx : Int) (x : Int × Ent) : Bool := decide (aN x.1 = idx)
def rowsX (idx : Int) (T : List (Int × Ent)) : List (Int × Ent) := (T.drop (plcI (numI idx 0) T)).takeWhile (inIx idx)
def subsL (idx : Int) (T : List (Int × Ent)) : List Int := (rowsX idx T).map subI
theorem tw_all {p : Int × Ent → Bool} : ∀ {T : List (Int × Ent)}, (∀ x ∈ T, p x = true) → T.takeWhile p = T
  | [], _ => rfl
  | x :: T, h => by rw [List.takeWhile_cons, if_pos (h x (by simp)), tw_all fun y hy => h y (by simp [hy])]
theorem tw_stop {p : Int × Ent → Bool} : ∀ {q r : List (Int × Ent)} {x : Int × Ent}, (∀ y ∈ q, p y = true) → p x = false → (q ++ x :: r).takeWhile p = q
  | [], r, x, _, hx => by simp [hx]
  | y :: q, r, x, h, hx => by rw [List.cons_append, List.takeWhile_cons, if_pos (h y (by simp)), tw_stop (fun z hz => h z (by simp [hz])) hx]
theorem tw_pre {p : Int × Ent → Bool} : ∀ {q T : List (Int × Ent)}, q <+: T → (∀ y ∈ q, p y = true) → q <+: T.takeWhile p
  | [], _, _, _ => List.nil_prefix
  | y :: q, [], h, _ => by obtain ⟨r, hr⟩ := h; cases hr
  | y :: q, z :: T, h, hq => by
    obtain ⟨rfl, h2⟩ := List.cons_prefix_cons.1 h
    rw [List.takeWhile_cons, if_pos (hq y (by simp))]
    exact List.cons_prefix_cons.2 ⟨rfl, tw_pre h2 fun z hz => hq z (by simp [hz])⟩
def encS (y : Int) : Array Value := #[.int .i64 y]
def SubI (J : List Int → World → Prop) (l Y V kb : Nat) (idx : Int) (tb : World → Option Nat) (pre : List (Int × Ent)) (X : World) : Prop :=
  J (pre.map subI) X ∧ (∀ x ∈ pre, inIx idx x = true) ∧ X.heap[Y]? = some (.cells #[.func (.yield l) #[] #[]] 166 (0, 0)) ∧ X.heap[kb]? = some (.cells #[.int .i64 idx] 3 (0, 0)) ∧ tb X ≠ some Y ∧ tb X ≠ some kb ∧ V ≤ X.heap.size
def SubX (J Jx : List Int → World → Prop) (idx : Int) (c : Code) (pre : List (Int × Ent)) (X : World) : Prop :=
  c = .ret ∧ ((∃ q x, pre = q ++ [x] ∧ (∀ y ∈ q, inIx idx y = true) ∧ inIx idx x = false ∧ J (q.map subI) X) ∨ ((∀ y ∈ pre, inIx idx y = true) ∧ Jx (pre.map subI) X))
theorem part_drop {T : List (Int × Ent)} {at_ : Nat} (h : at_ ≤ T.length) : T.length - at_ = (T.drop at_).length ∧ ((fe T).drop (at_ * 6)).take ((T.length - at_) * 6) = fe (T.drop at_) := by
  refine ⟨by simp, ?_⟩
  rw [fe_drop, List.take_of_length_le (by rw [fe_len]; simp)]
end Go.Proofs.Ytkgopaelfmppiaa