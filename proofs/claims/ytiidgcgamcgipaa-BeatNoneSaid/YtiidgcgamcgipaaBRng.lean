/- A loop over an iterator that hands its yield on to a loop of its own: what such an iterator is told of a round (whatever is no cells and came behind the outer loop's record lies as it lay), and the outer loop over it. The kit's law for a loop over an iterator tells the iterator nothing of blocks that are no cells. Nothing of the program is named here. -/
import Derived.RangeFuncNested
import Derived.RangeFuncBound
import Derived.RangeFuncCalls
import Derived.RangeFuncLeaves
import Derived.RangeFuncWrites
import Derived.RangeFuncBox
import Derived.Test.YtiidgcgamcgipaaBRl
namespace Go.Proofs.Ytiidgcgamcgipaa
open Go.RowKit
set_option linter.unusedSimpArgs false
set_option linter.unusedVariables false
/-- How an iterator's round may be answered: it goes on, or it stops; either way its own loops' records are as they were. -/
def Answ {α : Type} (Kp : World → World → Prop) (J Jx : List α → World → Prop) (L : Nat) (xs : List α) (W : World) (e : Ending) (W' : World) : Prop :=
  KeepsFrom L W W' ∧ ((e = .returned (.bool true) ∧ J xs W' ∧ Kp W W') ∨ (e = .returned (.bool false) ∧ Jx xs W'))
/-- What an iterator does that may hold loops of its own. -/
def SeqL {α : Type} (n : Nat) (P : Program) (g : Nat) (lb : Array Value) (encs : α → Array Value) (Kp : World → World → Prop) (S Sp : List α → Prop) (N : Nat) (w : World) : Prop :=
  ∀ (l : Nat) (J Jx : List α → World → Prop) (W : World), Below w.heap.size w W → OwnFrom W.heap.size J → OwnFrom W.heap.size Jx →
    (∀ pre x W1, J pre W1 → pre.length < N → YieldAt Fence.wide (n - 1) P l (encs x) W1 (Answ Kp J Jx W.heap.size (pre ++ [x]) W1)) → J [] W →
    CallsIn Fence.wide n P g (#[.func (.yield l) #[] #[]] ++ lb) W fun e W' => (∃ v, e = .returned v) ∧ ((∃ xs, S xs ∧ J xs W') ∨ (∃ pre, Sp pre ∧ Jx pre W'))

section
variable {α : Type} {n : Nat} {P : Program}
/-- A store of one block that is no cells leaves the later ones. -/
theorem keeps_over {W W' V : World} {B B' l : Nat} {o' p : Obj} (h : KeepsFrom B (W.putObj l o') W') (hV : W'.putObj l p = V) (h1 : B ≤ B') (h2 : l < B') : KeepsFrom B' W V := by
  subst hV
  refine ⟨by simpa using h.size, fun k x hk hx hc => ?_⟩
  rw [World.putObj_heap_other (by omega)]
  exact h.same k x (by omega) ((World.putObj_heap_other (by omega)).trans hx) hc
theorem range_L {g : Operand} {ps : Array Tmp} {assign body : Code} {Q : Exit → Act → World → Prop} {a : Act} {w : World}
    (h1 : 1 ≤ n) {gf : Nat} {lb : Array Value} (hg : a.eval g = .func (.func gf) #[] lb) (eg : ∀ args w, (callFunc gf args).run P w = .ok (.enter gf args) w)
    {encs : α → Array Value} {Kp : World → World → Prop} {S Sp : List α → Prop} {N : Nat} {w0 : World} (hseq : SeqL (n - 1) P gf lb encs Kp S Sp N w0)
    (hKt : ∀ {A B C : World}, Kp A B → Kp B C → Kp A C) (hKb : ∀ (W : World) (l : Nat) (o o' : Obj), w.heap.size ≤ l → W.heap[l]? = some o → o.isCells = false → o.isWalk = false → Kp W (W.putObj l o'))
    (hb0 : Below w0.heap.size w0 w) (hps : ∀ x, (encs x).size = ps.size)
    (I : List α → World → Prop) (Ix : Code → List α → World → Prop) (hI : OwnFrom w.heap.size I) (hIx : ∀ c, OwnFrom w.heap.size (Ix c)) (h0 : I [] w) (a₁ : α → Act)
    (hassign : ∀ (l : Nat) (x : α) (W : World) (K : Act → World → Prop), K (a₁ x) W →
      assign.wpIn (Fence.wide.inRound l) (n - 1 - 1) P (Exit.then K (fun _ _ _ => False)) { tmps := (ps.zip (encs x)).foldl (fun t (p, v) => t.setIfInBounds p v) a.tmps, defers := [] } W)
    (hbody : ∀ (l : Nat) (pre : List α) (x : α) (W : World), I pre W → pre.length < N → body.wpIn (Fence.wide.inRound l) (n - 1 - 1) P (ownPostG w.heap.size Kp I Ix (pre ++ [x]) W) (a₁ x) W)
    (hdone : ∀ (D : Nat) (xs : List α) (W : World), w.heap.size ≤ D → S xs → I xs W → W.heap[D]? = some (.deferred (some [])) → Q .normal { a with defers := { target := .collected D, args := #[] } :: a.defers } W)
    (hstop : ∀ (D : Nat) (c : Code) (pre : List α) (W : World), w.heap.size ≤ D → Sp pre → Ix c pre W → W.heap[D]? = some (.deferred (some [])) → c.wpIn Fence.wide n P Q { a with defers := { target := .collected D, args := #[] } :: a.defers } W) :
    (Code.rangeFunc g ps assign body).wpIn Fence.wide n P Q a w := by
  refine wpIn_rangeFunc fun fn hfn => ?_
  generalize hD : w.heap.size = D at *
  let R : LoopState → Option Code → Obj := fun st pe => .loop { state := st, pending := pe, fn, tmps := a.tmps, params := ps, assign, body, defers := D }
  -- the record lies at D + 1, the deferred calls of its rounds at D
  obtain ⟨V, hV⟩ : ∃ V, (w.alloc (.deferred (some []))).alloc (R .ready none) = V := ⟨_, rfl⟩
  have vL : V.heap[D + 1]? = some (R .ready none) := by
    have := World.alloc_heap_new (w.alloc (.deferred (some []))) (R .ready none)
    rwa [World.size_alloc, hD, hV] at this
  have vD : V.heap[D]? = some (.deferred (some [])) := by
    rw [← hV, ← hD]; exact (Below.heap_alloc _ _ _ (by simp)).trans (World.alloc_heap_new w _)
  have vS : V.heap.size = D + 2 := by rw [← hV]; simp [hD]
  have vI : I [] V := hV ▸ hI.alloc _ (hI.alloc _ h0)
  have vB : Below w0.heap.size w0 V := hV ▸ hb0.trans ((((Below.refl _ w).alloc (Nat.le_refl _) _).alloc (by simp) _).mono hb0.size)
  have run0 : (Instr.enterLoop fn a.tmps ps assign body none).run P w = .ok (D + 1, [{ target := .collected D, args := #[] }]) V := by
    subst hD; rw [← hV]; exact run_enterLoop_outer _ _ _ _ _
  have far : ∀ {A : World} {row : Option Nat}, (∀ r, row = some r → V.heap.size ≤ r ∧ ∃ o : Obj, A.heap[r]? = some o ∧ o.isCells = false) → ∀ r, row = some r → D ≤ r ∧ ∃ o : Obj, A.heap[r]? = some o ∧ o.isCells = false :=
    fun h r e => by obtain ⟨hB, o, ho, hw⟩ := h r e; exact ⟨by omega, o, ho, hw⟩
  have stay : ∀ {A B : World} {row : Option Nat} {k : Nat} {o : Obj}, A.grownBy B row → (∀ r, row = some r → V.heap.size ≤ r ∧ ∃ o : Obj, A.heap[r]? = some o ∧ o.isCells = false) → k < V.heap.size → A.heap[k]? = some o → B.heap[k]? = some o :=
    fun hg' hr hk ho => (hg'.block _ (Array.getElem?_eq_some_iff.1 ho).1 (fun e => by have := (hr _ e.symm).1; omega)).trans ho
  refine ⟨D + 1, [{ target := .collected D, args := #[] }], V, { target := .fn (.func gf) lb, args := #[.func (.yield (D + 1)) #[] #[]] }, V, gf, #[.func (.yield (D + 1)) #[] #[]] ++ lb, V, run0, ?_, ?_, ?_, fun _ => h1, ?_⟩
  · simp only [resolve, hg]; simp [go_sem]
  · intro _ _; trivial
  · simp [invoke, go_sem, eg]
  refine (hseq (D + 1) (fun pre W => I pre W ∧ W.heap[D + 1]? = some (R .ready none) ∧ W.heap[D]? = some (.deferred (some [])))
    (fun pre W => ∃ c, Ix c pre W ∧ W.heap[D + 1]? = some (R .done (some c)) ∧ W.heap[D]? = some (.deferred (some []))) V vB
    (fun s A B row hs hg' hr => ⟨hI s A B row hs.1 hg' (far hr), stay hg' hr (by omega) hs.2.1, stay hg' hr (by omega) hs.2.2⟩)
    (fun s A B row ⟨c, hc, hl, hk⟩ hg' hr => ⟨c, hIx c s A B row hc hg' (far hr), stay hg' hr (by omega) hl, stay hg' hr (by omega) hk⟩)
    ?_ ⟨vI, vL, vD⟩).mono ?_
  · rintro pre x W ⟨hi, hl, hk⟩ hlen
    have hlt : D + 1 < W.heap.size := (Array.getElem?_eq_some_iff.1 hl).1
    refine ⟨fn, _, assign, body, run_yield (P := P) (args := encs x) hl (hps x), roundIn_of_wpIn hfn (hassign _ x W _ ⟨_, run_beginRound hl rfl, ?_⟩)⟩
    refine wpIn_mono (hbody _ pre x _ (hI.putObj _ hi (by omega) hl rfl) hlen) ?_
    generalize hU : W.putObj (D + 1) _ = U
    have uL : ∃ r : Loop, r.state = .busy ∧ U.heap[D + 1]? = some (.loop r) ∧ ({ r with state := .ready } : Loop) = { state := .ready, pending := none, fn, tmps := a.tmps, params := ps, assign, body, defers := D } := ⟨_, rfl, hU ▸ World.putObj_heap_same hlt, rfl⟩
    obtain ⟨r, hrs, uL, hre⟩ := uL
    have uD : U.heap[D]? = some (.deferred (some [])) := hU ▸ (World.putObj_heap_other (by omega)).trans hk
    -- whichever way the body was left, its record is as it was
    have close : ∀ (jump : Option Code) (X : World), KeepsFrom D U X → ∃ Y, (Instr.endRound (D + 1) jump).run P X = .ok (.bool jump.isNone) Y ∧ Y = X.putObj (D + 1) (R (if jump.isNone then .ready else .done) jump) ∧
        X.heap[D + 1]? = some (.loop r) ∧ Y.heap[D + 1]? = some (R (if jump.isNone then .ready else .done) jump) ∧ Y.heap[D]? = some (.deferred (some [])) ∧ KeepsFrom V.heap.size W Y := fun jump X hX => by
      have xL := hX.same _ _ (by omega) uL rfl
      have hrun := run_endRound (P := P) jump xL
      have hrr : ∀ st pe, (Obj.loop { r with state := st, pending := pe }) = R st pe := fun st pe => by cases r; cases hre; rfl
      refine ⟨_, ?_, rfl, xL, World.putObj_heap_same (Array.getElem?_eq_some_iff.1 xL).1, (World.putObj_heap_other (by omega)).trans (hX.same _ _ (Nat.le_refl _) uD rfl), keeps_over (hU ▸ hX) rfl (by omega) (by omega)⟩
      rw [← hrr]; exact hrun
    rintro e a3 X hp
    cases e with
    | normal =>
      obtain ⟨hX, hKX, hIX⟩ := hp
      obtain ⟨Y, hr, rfl, xL, yL, yD, hk3⟩ := close none X hX
      exact ⟨_, _, hr, hk3, .inl ⟨rfl, ⟨hI.putObj _ hIX (by omega) xL rfl, yL, yD⟩, hKt (hKt (hU ▸ hKb _ _ _ _ (by omega) hl rfl rfl) hKX) (hKb _ _ _ _ (by omega) xL rfl rfl)⟩⟩
    | ret =>
      obtain ⟨hX, hIX⟩ := hp
      obtain ⟨Y, hr, rfl, xL, yL, yD, hk3⟩ := close (some .ret) X hX
      exact ⟨_, _, hr, hk3, .inr ⟨rfl, .ret, (hIx _).putObj _ hIX (by omega) xL rfl, yL, yD⟩⟩
    | exit id =>
      obtain ⟨hX, hIX⟩ := hp
      obtain ⟨Y, hr, rfl, xL, yL, yD, hk3⟩ := close (some (.exit id)) X hX
      exact ⟨_, _, hr, hk3, .inr ⟨rfl, .exit id, (hIx _).putObj _ hIX (by omega) xL rfl, yL, yD⟩⟩
    | goto t =>
      obtain ⟨hX, hIX⟩ := hp
      obtain ⟨Y, hr, rfl, xL, yL, yD, hk3⟩ := close (some (.goto t)) X hX
      exact ⟨_, _, hr, hk3, .inr ⟨rfl, .goto t, (hIx _).putObj _ hIX (by omega) xL rfl, yL, yD⟩⟩
    | panic ch => exact hp.elim
    | outgrown => exact hp.elim
  · rintro e X ⟨⟨v, rfl⟩, (⟨xs, hS, hi, hl, hk⟩ | ⟨pre, hSp, c, hi, hl, hk⟩)⟩
    · exact ⟨none, _, run_endLoop (P := P) hl (by simp), hdone _ xs _ (Nat.le_refl _) hS (hI.putObj _ hi (by omega) hl rfl) ((World.putObj_heap_other (by omega)).trans hk)⟩
    · exact ⟨some c, _, run_endLoop (P := P) hl (by simp), hstop _ c pre _ (Nat.le_refl _) hSp ((hIx c).putObj _ hi (by omega) hl rfl) ((World.putObj_heap_other (by omega)).trans hk)⟩
end
theorem wide_room (k : Nat) : Fence.wide.room k := fun d h => by cases h
/-- Where no depth is asked, and in whatever round: a yield is a yield. -/
theorem yield_any {m m' l l2 : Nat} {P : Program} {args : Array Value} {W : World} {R : Ending → World → Prop} (h : YieldAt Fence.wide m P l args W R) : YieldAt (Fence.wide.inRound l2) m' P l args W R := by
  obtain ⟨fn, tmps, assign, body, hy, hR⟩ := h
  exact ⟨fn, tmps, assign, body, hy, hR.1, fun c cs _ => hR.2 c cs (wide_room _)⟩
/-- What is there of a block that is cells. -/
theorem own_heap {β : Type} (k Bn : Nat) (o : Obj) (h : k < Bn) : OwnFrom Bn (fun (_ : β) W => W.heap[k]? = some o) :=
  fun _ _ _ _ hs hg hr => (hg.block k (Array.getElem?_eq_some_iff.1 hs).1 (fun e => by have := (hr k e.symm).1; omega)).trans hs
end Go.Proofs.Ytiidgcgamcgipaa