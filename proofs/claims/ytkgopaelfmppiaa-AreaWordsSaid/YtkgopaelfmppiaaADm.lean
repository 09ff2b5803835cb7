/- What find answers: the entry, or why there is none. -/
import Derived.Test.YtkgopaelfmppiaaADl
namespace Go.Proofs.Ytkgopaelfmppiaa
open Go.RowKit Go.Shelf
set_option linter.unusedSimpArgs false
set_option linter.unusedVariables false
def AbAt (w : World) (g : Nat) (a : Int) : Prop := w.heap[g]? = some (.cells #[.int .i64 a] 81 (0, 0))
theorem AbAt.below {w w' : World} {g : Nat} {a : Int} (h : AbAt w g a) (hb : Below w.heap.size w w') : AbAt w' g a := (hb.block g (Array.getElem?_eq_some_iff.1 h).1).trans h
theorem AbAt.cell {w : World} {g : Nat} {a : Int} (h : AbAt w g a) : w.cell? ⟨g, 0, none⟩ = some (.int .i64 a) := by rw [cell_of_row _ _ _ _ _ _ h]; rfl
theorem loc_none : Loc 0 (fun _ => none) := fun _ _ _ => rfl
theorem heap_other (W : World) (a : Addr) (v : Value) (k : Nat) (h : ¬ k = a.block) : (W.setCell a v).heap[k]? = W.heap[k]? := Below.heap_setCell W a v k h
theorem results_row_cell {P : Program} {fn : Func} {p u : Tmp} {ty ty2 : TypeId} (h : fn.results = #[.cell p ty, .cell u ty2]) (tmps : Array Value) (w : World) (g g2 : Nat) (t : TypeId) (cs : Array Value) (fr : Nat × Nat) (d : TypeDesc) (x : Value)
    (hp : tmps.getD p undef = .pointer (some ⟨g, 0, none⟩)) (hg : w.heap[g]? = some (.cells cs t fr))
    (hu : P.underlying ty = some d) (hd : (match d with | .struct _ | .array _ _ => true | _ => false) = true) (hi : (P.info? ty).map (·.size) = some cs.size)
    (hp2 : tmps.getD u undef = .pointer (some ⟨g2, 0, none⟩)) (hl : (loadVar ty2 ⟨g2, 0, none⟩).run P w = .ok x w) :
    (results fn tmps).run P w = .ok (.tuple #[.agg cs, x]) w := by
  have hp' := hp
  have hp2' := hp2
  simp only [Array.getD_eq_getD_getElem?] at hp' hp2'
  simp [results, h, hp', hp2', asAddr, run_loadVar_row w g t ty cs fr d hg hu hd hi, hl]
theorem load_abort (w : World) (g : Nat) (a : Int) (h : AbAt w g a) : (loadVar 81 ⟨g, 0, none⟩).run Try.prog w = .ok (.int .i64 a) w := by
  have hc := h.cell
  simp [go_sem, hc]
theorem fi_set {B g : Nat} {w0 X : World} {k a lo hi k' a' lo' hi' c c' : Int} {S S' : ByteArray} (hz : EntAt X g k a lo hi S) (ha : AbAt X (g + 1) c) (hb : Below B w0 X) (hg : B ≤ g) :
    EntAt ((((((X.setCell ⟨g, 0, none⟩ (.int .i64 k')).setCell ⟨g, 1, none⟩ (.int .i64 a')).setCell ⟨g, 2, none⟩ (.int .i64 lo')).setCell ⟨g, 3, none⟩ (.int .i64 hi')).setCell ⟨g, 4, none⟩ (.string S')).setCell ⟨g + 1, 0, none⟩ (.int .i64 c')) g k' a' lo' hi' S' ∧ AbAt ((((((X.setCell ⟨g, 0, none⟩ (.int .i64 k')).setCell ⟨g, 1, none⟩ (.int .i64 a')).setCell ⟨g, 2, none⟩ (.int .i64 lo')).setCell ⟨g, 3, none⟩ (.int .i64 hi')).setCell ⟨g, 4, none⟩ (.string S')).setCell ⟨g + 1, 0, none⟩ (.int .i64 c')) (g + 1) c' ∧ Below B w0 ((((((X.setCell ⟨g, 0, none⟩ (.int .i64 k')).setCell ⟨g, 1, none⟩ (.int .i64 a')).setCell ⟨g, 2, none⟩ (.int .i64 lo')).setCell ⟨g, 3, none⟩ (.int .i64 hi')).setCell ⟨g, 4, none⟩ (.string S')).setCell ⟨g + 1, 0, none⟩ (.int .i64 c')) := by
  have h5 : (((((X.setCell ⟨g, 0, none⟩ (.int .i64 k')).setCell ⟨g, 1, none⟩ (.int .i64 a')).setCell ⟨g, 2, none⟩ (.int .i64 lo')).setCell ⟨g, 3, none⟩ (.int .i64 hi')).setCell ⟨g, 4, none⟩ (.string S')).heap[g + 1]? = X.heap[g + 1]? := by
    rw [heap_other _ _ _ _ (by simp), heap_other _ _ _ _ (by simp), heap_other _ _ _ _ (by simp), heap_other _ _ _ _ (by simp), heap_other _ _ _ _ (by simp)]
  refine ⟨(heap_other _ _ _ _ (by simp)).trans hz.five, one_set (h5.trans ha) _, ?_⟩
  exact (five_below hb hg).setCell (p := ⟨g + 1, 0, none⟩) (by show B ≤ g + 1; omega) _
def findE (i j : Int) (T : List (Int × Ent)) : Int := if hasI (numI i j) T = true then 0 else if subsL i T = [] then 100794368 else 101253137
/-- What a round of find's loop finds, and leaves. -/
def FiB (w : World) (X : World) (a : Int) : Prop := EntAt X (w.heap.size + 1) 0 0 0 0 ⟨#[]⟩ ∧ AbAt X (w.heap.size + 2) a ∧ Below w.heap.size w X
def FiI (w : World) (pre : List Int) (X : World) : Prop := pre = [] ∧ FiB w X 0
def FiX (w : World) (c : Code) (pre : List Int) (X : World) : Prop := c = .ret ∧ pre.length = 1 ∧ FiB w X 101253137
theorem FiB_own (w : World) (Bn : Nat) (h : w.heap.size + 2 < Bn) (a : Int) : OwnFrom Bn (fun (_ : Unit) X => FiB w X a) := fun s X Y row ⟨h1, h2, h3⟩ hg hr =>
  ⟨own_heap (β := Unit) (w.heap.size + 1) Bn _ (by omega) () X Y row h1 hg hr, own_heap (β := Unit) (w.heap.size + 2) Bn _ (by omega) () X Y row h2 hg hr, h3.grown hg h3.size (fun k e => by have := (hr k e).1; omega)⟩
def FindP (w : World) (T : List (Int × Ent)) (i j : Int) (e : Ending) (w' : World) : Prop := e = .returned (.tuple #[entV (thI e0 (numI i j) T), .int .i64 (findE i j T)]) ∧ Below w.heap.size w w'
end Go.Proofs.Ytkgopaelfmppiaa