/- Next, All, the function that All hands back, and Take. -/
import Derived.RangeFuncNested
import Derived.RangeFuncBound
import Derived.RangeFuncCalls
import Derived.RangeFuncLeaves
import Derived.RangeFuncWrites
import Derived.RangeFuncBox
import Derived.Shelf.Abstract
import Derived.Shelf.RegionOpen
import Derived.OwnWalkIn
import Derived.TacticsInMore
import Derived.LoopNIn
import Derived.LoopIn
import Derived.Sort.QuietIn
import Derived.Test.YthofimkjemhnoaaPBTq
namespace Go.Proofs.Ythofimkjemhnoaa
open Go.RowKit Go.Shelf
set_option linter.unusedSimpArgs false
set_option linter.unusedVariables false
attribute [local go_sem] Oper.semAt_some

/-- What a round keeps: all blocks of one type. -/
def KpT (td : TypeId) (W W' : World) : Prop := W.heap.size ≤ W'.heap.size ∧ ∀ (k : Nat) cs fr, W.heap[k]? = some (Obj.cells cs td fr) → W'.heap[k]? = W.heap[k]?
theorem kpt_t {td : TypeId} {A B C : World} (h : KpT td A B) (k : KpT td B C) : KpT td A C := ⟨Nat.le_trans h.1 k.1, fun i cs fr hi => (k.2 i cs fr ((h.2 i cs fr hi).trans hi)).trans (h.2 i cs fr hi)⟩
theorem kpt_below {td : TypeId} {W W' : World} (h : Below W.heap.size W W') : KpT td W W' := ⟨h.size, fun k _ _ hk => h.block k (Array.getElem?_eq_some_iff.1 hk).1⟩
theorem kpt_put {td : TypeId} {W : World} {l : Nat} {o o' : Obj} (ho : W.heap[l]? = some o) (hc : o.isCells = false) : KpT td W (W.putObj l o') :=
  ⟨by simp, fun k cs fr hk => World.putObj_heap_other (fun e => by subst e; rw [hk] at ho; cases ho; cases hc)⟩
theorem kpt_own {td : TypeId} {W W' : World} (h : KpT td W W') {base s n : Nat} {v : Value} {xs : List Value} (ho : W.ownsRow base td s v n xs) : W'.ownsRow base td s v n xs := by
  refine ⟨ho.1, ?_⟩
  rcases ho.2 with hn | ⟨b, cap, cur, e, hb, hg, rest⟩
  · exact .inl hn
  · exact .inr ⟨b, cap, cur, e, hb, (h.2 b _ _ hg).trans hg, rest⟩
theorem pair_at {κ : Type} {ek : κ → Value} {w : World} {base e n c p : Nat} {a : Option Addr} {R : List (κ × Int)} {x : κ × Int} (h : w.ownsRow base e 2 (.slice a n c) n (fl ek eI R)) (hx : R[p]? = some x) :
    ∃ g, a = some ⟨g, 0, none⟩ ∧ g < w.heap.size ∧ n ≤ c ∧ c ≤ maxLen ∧ w.cell? ⟨g, p * 2, none⟩ = some (ek x.1) ∧ w.cell? ⟨g, p * 2 + 1, none⟩ = some (.int .i64 x.2) := by
  have hlt := (List.getElem?_eq_some_iff.1 hx).1
  have hl := h.1
  rw [fl_len] at hl
  obtain ⟨g, cap, cur, e1, _, hg, hnc, hm, _⟩ := own_some h (by omega)
  cases e1
  refine ⟨g, rfl, (Array.getElem?_eq_some_iff.1 hg).1, hnc, hm, ?_, ?_⟩
  · rw [own_cell h (by omega), fl_key ek eI R p x hx]
  · rw [own_cell h (by omega), fl_val ek eI R p x hx]; rfl
theorem take_at' {κ : Type} {R : List (κ × Int)} {p : Nat} {x : κ × Int} (hx : R[p]? = some x) : R.take p ++ [x] = R.take (p + 1) := by
  obtain ⟨hi, e⟩ := List.getElem?_eq_some_iff.1 hx
  rw [List.take_succ_eq_append_getElem hi, e]

def encTI (x : Int × Int) : Array Value := #[.int .i64 x.1, .int .i64 x.2]
def encTS (x : ByteArray × Int) : Array Value := #[.string x.1, .int .i64 x.2]
end Go.Proofs.Ythofimkjemhnoaa