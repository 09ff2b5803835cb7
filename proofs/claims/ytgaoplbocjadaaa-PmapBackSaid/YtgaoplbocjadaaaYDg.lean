/- A part of a table, its fork; what slices.All's function does. -/
import Derived.RangeFuncNested
import Derived.RangeFuncBound
import Derived.RangeFuncCalls
import Derived.RangeFuncLeaves
import Derived.RangeFuncWrites
import Derived.RangeFuncBox
import Derived.Shelf.Abstract
import Derived.Shelf.RegionOpen
import Derived.OwnWalkIn
import Derived.TacticsInMore
import Derived.LoopNIn
import Derived.LoopIn
import Derived.Sort.QuietIn
import Derived.Test.YtgaoplbocjadaaaYDRa
import Derived.Test.YtgaoplbocjadaaaYDd
namespace Go.Proofs.Ytgaoplbocjadaaa
open Go.RowKit Go.Shelf
attribute [local go_sem] Oper.semAt_some
set_option linter.unusedSimpArgs false
set_option linter.unusedVariables false
theorem own_below {w w' : World} {base e s n : Nat} {v : Value} {xs : List Value} (h : w.ownsRow base e s v n xs) (hb : Below w.heap.size w w') : w'.ownsRow base e s v n xs :=
  h.kept (grown_below none hb) (by cases hv : v.ownBlock with | none => exact .inl rfl | some k => exact .inr (by simp))
/-- What Fork has made. -/
def ShFork (tb tr : Nat) (w : World) (n : Nat) (xs : List Value) (e : Ending) (w' : World) : Prop := ∃ g' v', e = .returned (.pointer (some ⟨g', 0, none⟩)) ∧ Sh tb tr w' w.heap.size g' n xs v' ∧ w.heap.size ≤ g' ∧ Below w.heap.size w w'
theorem own_made (w : World) (base e s : Nat) (hb : base ≤ w.heap.size) : (w.alloc (.cells #[] e)).ownsRow base e s (.slice (some ⟨w.heap.size, 0, none⟩) 0 0) 0 [] :=
  own_mk hb (heap_alloc_new w _) (Nat.le_refl _) (by simp [maxLen]) (by simp) (by simp) (fun k hk => absurd hk (by simp))
/-- What a round keeps: all cells that were there, but for some blocks, and one that the world itself tells. -/
structure Kq (Fx : Nat → Prop) (tb : World → Option Nat) (W W' : World) : Prop where
  size : W.heap.size ≤ W'.heap.size
  cells : ∀ k cs t fr, W.heap[k]? = some (.cells cs t fr) → ¬ Fx k → tb W ≠ some k → W'.heap[k]? = W.heap[k]?
  next : tb W' = tb W ∨ ∃ b, tb W' = some b ∧ W.heap.size ≤ b
theorem kq_t {Fx : Nat → Prop} {tb : World → Option Nat} {A B C : World} (h : Kq Fx tb A B) (k : Kq Fx tb B C) : Kq Fx tb A C := by
  refine ⟨Nat.le_trans h.size k.size, fun i cs t fr hi hF ht => ?_, ?_⟩
  · have h1 := h.cells i cs t fr hi hF ht
    refine (k.cells i cs t fr (h1.trans hi) hF ?_).trans h1
    intro e
    rcases h.next with h2 | ⟨b, h2, h3⟩
    · exact ht (h2 ▸ e)
    · rw [h2] at e; cases e
      have := (Array.getElem?_eq_some_iff.1 hi).1
      omega
  · rcases k.next with h2 | ⟨b, h2, h3⟩
    · rw [h2]; exact h.next
    · exact .inr ⟨b, h2, Nat.le_trans h.size h3⟩
theorem kq_refl {Fx : Nat → Prop} {tb : World → Option Nat} (W : World) : Kq Fx tb W W := ⟨Nat.le_refl _, fun _ _ _ _ _ _ _ => rfl, .inl rfl⟩
/-- What the world tells hangs on the blocks below B0 alone. -/
def Loc (B0 : Nat) (tb : World → Option Nat) : Prop := ∀ X Y : World, (∀ k, k < B0 → Y.heap[k]? = X.heap[k]?) → tb Y = tb X
section
variable {Fx : Nat → Prop} {tb : World → Option Nat} {B0 : Nat} {W W' : World}
theorem kq_below (hl : Loc B0 tb) (hB : B0 ≤ W.heap.size) (h : Below W.heap.size W W') : Kq Fx tb W W' :=
  ⟨h.size, fun k _ _ _ hk _ _ => h.block k (Array.getElem?_eq_some_iff.1 hk).1, .inl (hl _ _ fun k hk => h.block k (by omega))⟩
theorem kq_put (hl : Loc B0 tb) {l : Nat} {o o' : Obj} (hB : B0 ≤ l) (ho : W.heap[l]? = some o) (hc : o.isCells = false) : Kq Fx tb W (W.putObj l o') :=
  ⟨by simp, fun k cs t fr hk _ _ => World.putObj_heap_other (fun e => by subst e; rw [hk] at ho; cases ho; cases hc), .inl (hl _ _ fun k hk => World.putObj_heap_other (by omega))⟩
/-- A cell of a block that is kept. -/
theorem Kq.heap (h : Kq Fx tb W W') {k : Nat} {cs : Array Value} {t : TypeId} {fr : Nat × Nat} (hk : W.heap[k]? = some (.cells cs t fr)) (hF : ¬ Fx k) (ht : tb W ≠ some k) : W'.heap[k]? = some (.cells cs t fr) := (h.cells k cs t fr hk hF ht).trans hk
theorem Kq.own (h : Kq Fx tb W W') {base e s n : Nat} {v : Value} {xs : List Value} (ho : W.ownsRow base e s v n xs) (hF : ∀ b, v.ownBlock = some b → ¬ Fx b) (ht : ∀ b, v.ownBlock = some b → tb W ≠ some b) : W'.ownsRow base e s v n xs := by
  refine ⟨ho.1, ?_⟩
  rcases ho.2 with hn | ⟨b, cap, cur, rfl, hb, hg, rest⟩
  · exact .inl hn
  · exact .inr ⟨b, cap, cur, rfl, hb, h.heap hg (hF b rfl) (ht b rfl), rest⟩
theorem Kq.not (h : Kq Fx tb W W') {k : Nat} (hk : k < W.heap.size) (ht : tb W ≠ some k) : tb W' ≠ some k := fun e => by
  rcases h.next with h2 | ⟨b, h2, h3⟩
  · exact ht (h2 ▸ e)
  · rw [h2] at e; cases e; omega
end
abbrev Elt := Nat × (Int × Ent)
def en (R : List (Int × Ent)) : List Elt := (List.range R.length).map fun i : Nat => (i, R.getD i (0, e0))
theorem en_len (R : List (Int × Ent)) : (en R).length = R.length := by simp [en]
theorem en_get {R : List (Int × Ent)} {i : Nat} {x : Int × Ent} (h : R[i]? = some x) : (en R)[i]? = some (i, x) := by
  obtain ⟨hl, e⟩ := List.getElem?_eq_some_iff.1 h
  simp [en, hl]
  exact e
theorem en_take {R : List (Int × Ent)} {i : Nat} {x : Int × Ent} (h : R[i]? = some x) : (en R).take i ++ [(i, x)] = (en R).take (i + 1) := by
  have hl := (List.getElem?_eq_some_iff.1 (en_get h)).1
  rw [List.take_succ_eq_append_getElem hl]
  have := en_get h
  rw [List.getElem?_eq_getElem hl] at this
  rw [Option.some.inj this]
theorem en_snd (R : List (Int × Ent)) : (en R).map (·.2) = R := by
  apply List.ext_getElem?
  intro i
  rw [List.getElem?_map]
  by_cases h : i < R.length
  · rw [en_get (List.getElem?_eq_getElem h), List.getElem?_eq_getElem h]; rfl
  · rw [List.getElem?_eq_none (by rw [en_len]; omega), List.getElem?_eq_none (by omega)]; rfl
def encs (x : Elt) : Array Value := #[.int .i64 (x.1 : Nat), .agg #[.int .i64 x.2.1, .int .i64 x.2.2.k, .int .i64 x.2.2.a, .int .i64 x.2.2.lo, .int .i64 x.2.2.hi, .string (strOfNums x.2.2.b)]]

end Go.Proofs.Ytgaoplbocjadaaa
namespace Go.Proofs.Ytgaoplbocjadaaa
open Go.RowKit Go.Shelf
attribute [local go_sem] Oper.semAt_some
set_option linter.unusedSimpArgs false
set_option linter.unusedVariables false
theorem own_more {β : Type} {B B' : Nat} {J : β → World → Prop} (h : OwnFrom B J) (hb : B ≤ B') : OwnFrom B' J := fun s W W' row hs hg hr => h s W W' row hs hg (fun r e => by obtain ⟨h1, h2⟩ := hr r e; exact ⟨by omega, h2⟩)
theorem keeps_more {B B' : Nat} {W W' : World} (h : KeepsFrom B W W') (hb : B ≤ B') : KeepsFrom B' W W' := ⟨h.size, fun k o hk => h.same k o (by omega)⟩
def sn (pre : List Elt) : List (Int × Ent) := pre.map (·.2)
theorem sn_snoc (pre : List Elt) (i : Nat) (x : Int × Ent) : sn (pre ++ [(i, x)]) = sn pre ++ [x] := by simp [sn]
theorem sn_len (pre : List Elt) : (sn pre).length = pre.length := by simp [sn]
def TelI (J : List (Int × Ent) → World → Prop) (l b V : Nat) (tb : World → Option Nat) (pre : List Elt) (X : World) : Prop := J (sn pre) X ∧ X.heap[b]? = some (.cells #[.func (.yield l) #[] #[]] 170 (0, 0)) ∧ tb X ≠ some b ∧ V ≤ X.heap.size
def TelX (Jx : List (Int × Ent) → World → Prop) (c : Code) (pre : List Elt) (X : World) : Prop := c = .ret ∧ Jx (sn pre) X
def TelA (gf : Nat) (lb : Array Value) (l b0 V : Nat) (x : Elt) (a' : Act) (X : World) : Prop := ∃ b, X.heap[b]? = some (.cells #[.int .i64 x.2.1, .int .i64 x.2.2.k, .int .i64 x.2.2.a, .int .i64 x.2.2.lo, .int .i64 x.2.2.hi, .string (strOfNums x.2.2.b)] 202 (0, 0)) ∧ V ≤ b ∧ a' = { tmps := #[.func (Fn.func gf) #[] lb, .func (.yield l) #[] #[], undef, .pointer (some ⟨b0, 0, none⟩), undef, .pointer (some ⟨b, 0, none⟩), .func (Fn.func gf) #[] lb, .int .i64 (x.1 : Nat), .agg #[.int .i64 x.2.1, .int .i64 x.2.2.k, .int .i64 x.2.2.a, .int .i64 x.2.2.lo, .int .i64 x.2.2.hi, .string (strOfNums x.2.2.b)], undef, undef, undef, undef, undef, undef, undef], defers := [] }
end Go.Proofs.Ytgaoplbocjadaaa
namespace Go.Proofs.Ytgaoplbocjadaaa
open Go.RowKit Go.Shelf
attribute [local go_sem] Oper.semAt_some
set_option linter.unusedSimpArgs false
set_option linter.unusedVariables false
def encP (x : Int × Ent) : Array Value := #[.int .i64 x.1, entV x.2]
/-- What Place answers, whatever it makes. -/
def Plc (w : World) (at_ : Nat) (th : Bool) (e : Ending) (w' : World) : Prop := e = .returned (.tuple #[.int .i64 (at_ : Nat), .bool th]) ∧ Below w.heap.size w w'
end Go.Proofs.Ytgaoplbocjadaaa
