/- Letters and boxes as they lie; what place answers. -/
import Derived.Test.YtgnfohncgfgecaaMFrameF
namespace Go.Proofs.Ytgnfohncgfgecaa
open Go.RowKit

structure Ltr where
  id : Int
  r : Bool
  n : Int
  d : Nat → Int
  s : Bool
def Ltr.v (x : Ltr) : List Value := [.int .i64 x.id, .bool x.r, .int .i64 x.n, .int .u8 (x.d 0), .int .u8 (x.d 1), .int .u8 (x.d 2), .int .u8 (x.d 3), .int .u8 (x.d 4), .int .u8 (x.d 5), .int .u8 (x.d 6), .int .u8 (x.d 7), .bool x.s]
def Ltr.rank (x : Ltr) : Int := rk x.id x.r x.n x.d
def flat (ls : List Ltr) : List Value := ls.flatMap Ltr.v
theorem flat_cons (x : Ltr) (ls : List Ltr) : flat (x :: ls) = x.v ++ flat ls := rfl
theorem flat_append (a b : List Ltr) : flat (a ++ b) = flat a ++ flat b := List.flatMap_append
theorem flat_len : ∀ ls : List Ltr, (flat ls).length = ls.length * 12
  | [] => rfl
  | x :: ls => by rw [flat_cons, List.length_append, flat_len ls]; simp [Ltr.v]; omega
theorem flat_take : ∀ (ls : List Ltr) (i : Nat), (flat ls).take (i * 12) = flat (ls.take i)
  | [], i => by simp [flat]
  | x :: ls, 0 => by simp [flat]
  | x :: ls, i + 1 => by
    rw [flat_cons, List.take_succ_cons, flat_cons, ← flat_take ls i, List.take_append, show (i + 1) * 12 - x.v.length = i * 12 by simp [Ltr.v]; omega, List.take_of_length_le (by simp [Ltr.v]; omega)]
theorem flat_drop : ∀ (ls : List Ltr) (i : Nat), (flat ls).drop (i * 12) = flat (ls.drop i)
  | [], i => by simp [flat]
  | x :: ls, 0 => by simp [flat]
  | x :: ls, i + 1 => by
    rw [flat_cons, List.drop_succ_cons, ← flat_drop ls i, List.drop_append, show (i + 1) * 12 - x.v.length = i * 12 by simp [Ltr.v]; omega, List.drop_of_length_le (by simp [Ltr.v]; omega), List.nil_append]
theorem flat_at : ∀ (ls : List Ltr) (i k : Nat) (x : Ltr), ls[i]? = some x → k < 12 → (flat ls)[i * 12 + k]? = x.v[k]?
  | [], i, k, x, h, _ => by simp at h
  | y :: ls, 0, k, x, h, hk => by
    simp only [List.getElem?_cons_zero, Option.some.injEq] at h
    subst h
    rw [flat_cons, List.getElem?_append_left (by simp [Ltr.v]; omega), Nat.zero_mul, Nat.zero_add]
  | y :: ls, i + 1, k, x, h, hk => by
    simp only [List.getElem?_cons_succ] at h
    rw [flat_cons, List.getElem?_append_right (by simp [Ltr.v]; omega), show (i + 1) * 12 + k - y.v.length = i * 12 + k by simp [Ltr.v]; omega, flat_at ls i k x h hk]
theorem ltr_one (x : Ltr) : ∀ u ∈ x.v, u.oneCell' = true := by simp [Ltr.v, Value.oneCell']
theorem flat_one (ls : List Ltr) : ∀ u ∈ flat ls, u.oneCell' = true := fun u hu => by
  obtain ⟨x, _, h⟩ := List.mem_flatMap.1 hu
  exact ltr_one x u h
theorem ltr_cells {w : World} {base n g cap i : Nat} {ls : List Ltr} {x : Ltr} (h : w.ownsRow base 66 12 (.slice (some ⟨g, 0, none⟩) n cap) n (flat ls)) (hx : ls[i]? = some x) :
    w.cell? ⟨g, i * 12, none⟩ = some (.int .i64 x.id) ∧ w.cell? ⟨g, i * 12 + 1, none⟩ = some (.bool x.r) ∧ w.cell? ⟨g, i * 12 + 2, none⟩ = some (.int .i64 x.n) ∧ w.cell? ⟨g, i * 12 + 3, none⟩ = some (.int .u8 (x.d 0)) ∧ w.cell? ⟨g, i * 12 + 4, none⟩ = some (.int .u8 (x.d 1)) ∧ w.cell? ⟨g, i * 12 + 5, none⟩ = some (.int .u8 (x.d 2)) ∧ w.cell? ⟨g, i * 12 + 6, none⟩ = some (.int .u8 (x.d 3)) ∧ w.cell? ⟨g, i * 12 + 7, none⟩ = some (.int .u8 (x.d 4)) ∧ w.cell? ⟨g, i * 12 + 8, none⟩ = some (.int .u8 (x.d 5)) ∧ w.cell? ⟨g, i * 12 + 9, none⟩ = some (.int .u8 (x.d 6)) ∧ w.cell? ⟨g, i * 12 + 10, none⟩ = some (.int .u8 (x.d 7)) ∧ w.cell? ⟨g, i * 12 + 11, none⟩ = some (.bool x.s) := by
  have hl := h.1
  rw [flat_len] at hl
  have hi : i < ls.length := (List.getElem?_eq_some_iff.1 hx).1
  have hc : ∀ k, k < 12 → w.cell? ⟨g, i * 12 + k, none⟩ = x.v[k]? := fun k hk => by rw [own_cell h (by omega), flat_at ls i k x hx hk]
  exact ⟨hc 0 (by omega), hc 1 (by omega), hc 2 (by omega), hc 3 (by omega), hc 4 (by omega), hc 5 (by omega), hc 6 (by omega), hc 7 (by omega), hc 8 (by omega), hc 9 (by omega), hc 10 (by omega), hc 11 (by omega)⟩

/-- How many letters of a part there are. -/
def cntL (s : Bool) (ls : List Ltr) : Nat := (ls.filter fun x => x.s == s).length
theorem cntL_split : ∀ ls : List Ltr, cntL true ls + cntL false ls = ls.length
  | [] => rfl
  | x :: ls => by
    have h := cntL_split ls
    unfold cntL at h ⊢
    cases hx : x.s <;> simp [hx] at h ⊢ <;> omega
/-- Block g is a mailbox. -/
structure Bx (w : World) (base g : Nat) (ls : List Ltr) (lost : Int) (v : Value) : Prop where
  box : w.heap[g]? = some (.cells #[v, .int .i64 lost] 60 (0, 0))
  row : w.ownsRow base 66 12 v ls.length (flat ls)
  isnt : v.ownBlock ≠ some g
  part : ∀ s, cntL s ls ≤ 8
section
variable {w w' : World} {base g : Nat} {ls : List Ltr} {lost : Int} {v : Value}
theorem Bx.few (h : Bx w base g ls lost v) : ls.length ≤ 16 := by have h1 := h.part true; have h2 := h.part false; have h3 := cntL_split ls; omega
theorem Bx.lt (h : Bx w base g ls lost v) : g < w.heap.size := (Array.getElem?_eq_some_iff.1 h.box).1
theorem Bx.cells (h : Bx w base g ls lost v) : w.cell? ⟨g, 0, none⟩ = some v ∧ w.cell? ⟨g, 1, none⟩ = some (.int .i64 lost) := by
  refine ⟨?_, ?_⟩ <;> (rw [cell_of_row _ _ _ _ _ _ h.box]; rfl)
theorem Bx.frozen (h : Bx w base g ls lost v) (i : Nat) : w.frozen? ⟨g, i, none⟩ = false := frozen_of_row _ _ _ _ _ h.box
theorem Bx.keep (h : Bx w base g ls lost v) {r : Option Nat} (hg : w.grownBy w' r) (h1 : r ≠ some g) (h2 : ∀ k, r = some k → v.ownBlock ≠ some k) : Bx w' base g ls lost v :=
  ⟨(hg.block g h.lt (fun e => h1 e.symm)).trans h.box, h.row.kept hg (by
    cases hv : v.ownBlock with
    | none => exact .inl rfl
    | some k => exact .inr fun e => h2 k e.symm hv), h.isnt, h.part⟩
theorem Bx.below (h : Bx w base g ls lost v) (hb : Below w.heap.size w w') : Bx w' base g ls lost v := h.keep (grown_below none hb) (by simp) (by simp)
end
end Go.Proofs.Ytgnfohncgfgecaa
