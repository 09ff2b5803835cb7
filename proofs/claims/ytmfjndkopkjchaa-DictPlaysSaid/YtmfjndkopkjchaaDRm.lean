/- Ranges over iterators that hold loops of their own, where what is ranged over is laid into blocks ahead of the body; regions that draw their order inside a round. Nothing of the program is named here. -/
import Derived.Test.YtmfjndkopkjchaaDRa
import Derived.Test.YtmfjndkopkjchaaDRl
import Derived.OrdersIn
import Derived.OwnWalkIn
namespace Go.Proofs.Ytmfjndkopkjchaa
open Go Go.RowKit
set_option linter.unusedSimpArgs false
set_option linter.unusedVariables false
section
variable {α : Type} {n : Nat} {P : Program}
theorem range_M {g : Operand} {ps : Array Tmp} {assign body : Code} {Q : Exit → Act → World → Prop} {a : Act} {w : World}
    (h1 : 1 ≤ n) {gf : Nat} {lb : Array Value} (hg : a.eval g = .func (.func gf) #[] lb) (eg : ∀ args w, (callFunc gf args).run P w = .ok (.enter gf args) w)
    {encs : α → Array Value} {Kp : World → World → Prop} {S Sp : List α → Prop} {N : Nat} {w0 : World} (hseq : SeqL (n - 1) P gf lb encs Kp S Sp N w0)
    (hKt : ∀ {A B C : World}, Kp A B → Kp B C → Kp A C) (hKb : ∀ (W : World) (l : Nat) (o o' : Obj), w.heap.size ≤ l → W.heap[l]? = some o → o.isCells = false → o.isWalk = false → Kp W (W.putObj l o'))
    (hb0 : Below w0.heap.size w0 w) (hps : ∀ x, (encs x).size = ps.size)
    (I : List α → World → Prop) (Ix : Code → List α → World → Prop) (hI : OwnFrom w.heap.size I) (hIx : ∀ c, OwnFrom w.heap.size (Ix c)) (h0 : I [] w) (AS : α → Act → World → Prop) (hAS : ∀ x a1, OwnFrom w.heap.size (fun (_ : Unit) W => AS x a1 W)) (hKbel : ∀ (W W' : World), w.heap.size ≤ W.heap.size → Below W.heap.size W W' → Kp W W')
    (hassign : ∀ (l : Nat) (x : α) (W : World) (K : Act → World → Prop), (∀ a1 W1, Below W.heap.size W W1 → AS x a1 W1 → K a1 W1) →
      assign.wpIn (Fence.wide.inRound l) (n - 1 - 1) P (Exit.then K (fun _ _ _ => False)) { tmps := (ps.zip (encs x)).foldl (fun t (p, v) => t.setIfInBounds p v) a.tmps, defers := [] } W)
    (hbody : ∀ (l : Nat) (pre : List α) (x : α) (a1 : Act) (W : World), I pre W → pre.length < N → AS x a1 W → body.wpIn (Fence.wide.inRound l) (n - 1 - 1) P (ownPostG w.heap.size Kp I Ix (pre ++ [x]) W) a1 W)
    (hdone : ∀ (D : Nat) (xs : List α) (W : World), w.heap.size ≤ D → S xs → I xs W → W.heap[D]? = some (.deferred (some [])) → Q .normal { a with defers := { target := .collected D, args := #[] } :: a.defers } W)
    (hstop : ∀ (D : Nat) (c : Code) (pre : List α) (W : World), w.heap.size ≤ D → Sp pre → Ix c pre W → W.heap[D]? = some (.deferred (some [])) → c.wpIn Fence.wide n P Q { a with defers := { target := .collected D, args := #[] } :: a.defers } W) :
    (Code.rangeFunc g ps assign body).wpIn Fence.wide n P Q a w := by
  refine wpIn_rangeFunc fun fn hfn => ?_
  generalize hD : w.heap.size = D at *
  let R : LoopState → Option Code → Obj := fun st pe => .loop { state := st, pending := pe, fn, tmps := a.tmps, params := ps, assign, body, defers := D }
  -- the record lies at D + 1, the deferred calls of its rounds at D
  obtain ⟨V, hV⟩ : ∃ V, (w.alloc (.deferred (some []))).alloc (R .ready none) = V := ⟨_, rfl⟩
  have vL : V.heap[D + 1]? = some (R .ready none) := by
    have := World.alloc_heap_new (w.alloc (.deferred (some []))) (R .ready none)
    rwa [World.size_alloc, hD, hV] at this
  have vD : V.heap[D]? = some (.deferred (some [])) := by
    rw [← hV, ← hD]; exact (Below.heap_alloc _ _ _ (by simp)).trans (World.alloc_heap_new w _)
  have vS : V.heap.size = D + 2 := by rw [← hV]; simp [hD]
  have vI : I [] V := hV ▸ hI.alloc _ (hI.alloc _ h0)
  have vB : Below w0.heap.size w0 V := hV ▸ hb0.trans ((((Below.refl _ w).alloc (Nat.le_refl _) _).alloc (by simp) _).mono hb0.size)
  have run0 : (Instr.enterLoop fn a.tmps ps assign body none).run P w = .ok (D + 1, [{ target := .collected D, args := #[] }]) V := by
    subst hD; rw [← hV]; exact run_enterLoop_outer _ _ _ _ _
  have far : ∀ {A : World} {row : Option Nat}, (∀ r, row = some r → V.heap.size ≤ r ∧ ∃ o : Obj, A.heap[r]? = some o ∧ o.isCells = false) → ∀ r, row = some r → D ≤ r ∧ ∃ o : Obj, A.heap[r]? = some o ∧ o.isCells = false :=
    fun h r e => by obtain ⟨hB, o, ho, hw⟩ := h r e; exact ⟨by omega, o, ho, hw⟩
  have stay : ∀ {A B : World} {row : Option Nat} {k : Nat} {o : Obj}, A.grownBy B row → (∀ r, row = some r → V.heap.size ≤ r ∧ ∃ o : Obj, A.heap[r]? = some o ∧ o.isCells = false) → k < V.heap.size → A.heap[k]? = some o → B.heap[k]? = some o :=
    fun hg' hr hk ho => (hg'.block _ (Array.getElem?_eq_some_iff.1 ho).1 (fun e => by have := (hr _ e.symm).1; omega)).trans ho
  refine ⟨D + 1, [{ target := .collected D, args := #[] }], V, { target := .fn (.func gf) lb, args := #[.func (.yield (D + 1)) #[] #[]] }, V, gf, #[.func (.yield (D + 1)) #[] #[]] ++ lb, V, run0, ?_, ?_, ?_, fun _ => h1, ?_⟩
  · simp only [resolve, hg]; simp [go_sem]
  · intro _ _; trivial
  · simp [invoke, go_sem, eg]
  refine (hseq (D + 1) (fun pre W => I pre W ∧ W.heap[D + 1]? = some (R .ready none) ∧ W.heap[D]? = some (.deferred (some [])))
    (fun pre W => ∃ c, Ix c pre W ∧ W.heap[D + 1]? = some (R .done (some c)) ∧ W.heap[D]? = some (.deferred (some []))) V vB
    (fun s A B row hs hg' hr => ⟨hI s A B row hs.1 hg' (far hr), stay hg' hr (by omega) hs.2.1, stay hg' hr (by omega) hs.2.2⟩)
    (fun s A B row ⟨c, hc, hl, hk⟩ hg' hr => ⟨c, hIx c s A B row hc hg' (far hr), stay hg' hr (by omega) hl, stay hg' hr (by omega) hk⟩)
    ?_ ⟨vI, vL, vD⟩).mono ?_
  · rintro pre x W ⟨hi, hl, hk⟩ hlen
    have hlt : D + 1 < W.heap.size := (Array.getElem?_eq_some_iff.1 hl).1
    have hDw : w.heap.size ≤ W.heap.size := by omega
    refine ⟨fn, _, assign, body, run_yield (P := P) (args := encs x) hl (hps x), roundIn_of_wpIn hfn (hassign _ x W _ (fun a1 W1 hbW has => ?_))⟩
    have kW : KeepsFrom V.heap.size W W1 := ⟨hbW.size, fun k o _ hk' _ => (hbW.block k (Array.getElem?_eq_some_iff.1 hk').1).trans hk'⟩
    have kpW : Kp W W1 := hKbel W W1 (by omega) hbW
    replace hi : I pre W1 := hI _ W _ none hi ⟨hbW.os, hbW.tape, hbW.output, hbW.size, fun k hk' _ => hbW.block k hk'⟩ (fun r e => by cases e)
    have hl0 := hl
    replace hl := (hbW.block _ hlt).trans hl0
    replace hk := (hbW.block _ (Array.getElem?_eq_some_iff.1 hk).1).trans hk
    replace hlt : D + 1 < W1.heap.size := Nat.lt_of_lt_of_le hlt hbW.size
    refine ⟨_, run_beginRound hl rfl, ?_⟩
    refine wpIn_mono (hbody _ pre x a1 _ (hI.putObj _ hi (by omega) hl rfl) hlen ((hAS x a1).putObj (s := ()) _ has (by omega) hl rfl)) ?_
    generalize hU : W1.putObj (D + 1) _ = U
    have uL : ∃ r : Loop, r.state = .busy ∧ U.heap[D + 1]? = some (.loop r) ∧ ({ r with state := .ready } : Loop) = { state := .ready, pending := none, fn, tmps := a.tmps, params := ps, assign, body, defers := D } := ⟨_, rfl, hU ▸ World.putObj_heap_same hlt, rfl⟩
    obtain ⟨r, hrs, uL, hre⟩ := uL
    have uD : U.heap[D]? = some (.deferred (some [])) := hU ▸ (World.putObj_heap_other (by omega)).trans hk
    -- whichever way the body was left, its record is as it was
    have close : ∀ (jump : Option Code) (X : World), KeepsFrom D U X → ∃ Y, (Instr.endRound (D + 1) jump).run P X = .ok (.bool jump.isNone) Y ∧ Y = X.putObj (D + 1) (R (if jump.isNone then .ready else .done) jump) ∧
        X.heap[D + 1]? = some (.loop r) ∧ Y.heap[D + 1]? = some (R (if jump.isNone then .ready else .done) jump) ∧ Y.heap[D]? = some (.deferred (some [])) ∧ KeepsFrom V.heap.size W Y := fun jump X hX => by
      have xL := hX.same _ _ (by omega) uL rfl
      have hrun := run_endRound (P := P) jump xL
      have hrr : ∀ st pe, (Obj.loop { r with state := st, pending := pe }) = R st pe := fun st pe => by cases r; cases hre; rfl
      refine ⟨_, ?_, rfl, xL, World.putObj_heap_same (Array.getElem?_eq_some_iff.1 xL).1, (World.putObj_heap_other (by omega)).trans (hX.same _ _ (Nat.le_refl _) uD rfl), kW.trans (keeps_over (hU ▸ hX) rfl (by omega) (by omega))⟩
      rw [← hrr]; exact hrun
    rintro e a3 X hp
    cases e with
    | normal =>
      obtain ⟨hX, hKX, hIX⟩ := hp
      obtain ⟨Y, hr, rfl, xL, yL, yD, hk3⟩ := close none X hX
      exact ⟨_, _, hr, hk3, .inl ⟨rfl, ⟨hI.putObj _ hIX (by omega) xL rfl, yL, yD⟩, hKt kpW (hKt (hKt (hU ▸ hKb _ _ _ _ (by omega) hl rfl rfl) hKX) (hKb _ _ _ _ (by omega) xL rfl rfl))⟩⟩
    | ret =>
      obtain ⟨hX, hIX⟩ := hp
      obtain ⟨Y, hr, rfl, xL, yL, yD, hk3⟩ := close (some .ret) X hX
      exact ⟨_, _, hr, hk3, .inr ⟨rfl, .ret, (hIx _).putObj _ hIX (by omega) xL rfl, yL, yD⟩⟩
    | exit id =>
      obtain ⟨hX, hIX⟩ := hp
      obtain ⟨Y, hr, rfl, xL, yL, yD, hk3⟩ := close (some (.exit id)) X hX
      exact ⟨_, _, hr, hk3, .inr ⟨rfl, .exit id, (hIx _).putObj _ hIX (by omega) xL rfl, yL, yD⟩⟩
    | goto t =>
      obtain ⟨hX, hIX⟩ := hp
      obtain ⟨Y, hr, rfl, xL, yL, yD, hk3⟩ := close (some (.goto t)) X hX
      exact ⟨_, _, hr, hk3, .inr ⟨rfl, .goto t, (hIx _).putObj _ hIX (by omega) xL rfl, yL, yD⟩⟩
    | panic ch => exact hp.elim
    | outgrown => exact hp.elim
  · rintro e X ⟨⟨v, rfl⟩, (⟨xs, hS, hi, hl, hk⟩ | ⟨pre, hSp, c, hi, hl, hk⟩)⟩
    · exact ⟨none, _, run_endLoop (P := P) hl (by simp), hdone _ xs _ (Nat.le_refl _) hS (hI.putObj _ hi (by omega) hl rfl) ((World.putObj_heap_other (by omega)).trans hk)⟩
    · exact ⟨some c, _, run_endLoop (P := P) hl (by simp), hstop _ c pre _ (Nat.le_refl _) hSp ((hIx c).putObj _ hi (by omega) hl rfl) ((World.putObj_heap_other (by omega)).trans hk)⟩
end
end Go.Proofs.Ytmfjndkopkjchaa
namespace Go.Proofs.Ytmfjndkopkjchaa
open Go Go.RowKit
set_option linter.unusedSimpArgs false
set_option linter.unusedVariables false
/-- Neither a panic nor a stack that has outgrown. -/
def noQ (Q : Exit → Act → World → Prop) : Exit → Act → World → Prop := fun e a w => match e with
  | .panic _ => False
  | .outgrown => False
  | e => Q e a w
theorem wp_noQ {P : Program} {c : Code} {Q : Exit → Act → World → Prop} {a : Act} {w : World} (h : c.wp P (noQ Q) a w) : c.wp P Q a w :=
  wp_mono h (fun e a w hh => by cases e with | panic => exact absurd hh id | outgrown => exact absurd hh id | _ => exact hh)
theorem wpIn_noQ {F : Fence} {n : Nat} {P : Program} {c : Code} {Q : Exit → Act → World → Prop} {a : Act} {w : World} (h : c.wpIn F n P (noQ Q) a w) : c.wpIn F n P Q a w :=
  wpIn_mono h (fun e a w hh => by cases e with | panic => exact absurd hh id | outgrown => exact absurd hh id | _ => exact hh)
theorem noQ_lets {Q : Exit → Act → World → Prop} : ¬ LetsOut (noQ Q) := fun ⟨_, _, h⟩ => h
section
variable {P : Program} {ops : Array Oper} {Q : Exit → Act → World → Prop} {md : Region.Mode} {l n : Nat}
theorem op_in {o : Oper} {a : Act} {w : World} {K : Act → World → Prop} (hd : ∀ c, o.op ≠ .defer c) (h : o.wp P a w K Q) : o.wpIn (Fence.wide.inRound l) n P a w K Q := by
  refine ⟨fun _ _ => trivial, ?_⟩
  show o.uponIn _ _ _ _ _ _ ((o.semAt (some l) a.eval).run P w)
  rw [Oper.semAt_some l _ _ hd]
  unfold Oper.wp at h
  generalize (execOp a.eval o).run P w = r at *
  cases r with
  | ok x w' =>
    cases x <;> simp only [Oper.upon, Oper.uponIn] at h ⊢
    case value => exact h
    case skip => exact h
    case defer => exact h
    case enter => exact ⟨fun h => (by cases h), callsIn_wide.2 h⟩
    case row => exact ⟨fun h => (by cases h), fun c cs _ => let ⟨v, w', r, s⟩ := h c cs; ⟨v, w', r, stepsIn_wide.2 s⟩⟩
  | halt x w' => cases x <;> simp only [Oper.upon, Oper.uponIn] at h ⊢; exact h
theorem any_in (hd : ∀ (i : Nat) (o : Oper), ops[i]? = some o → ∀ c, o.op ≠ .defer c) (hno : ¬ LetsOut Q) : ∀ (fuel : Nat) (listed : Array Bool) (a : Act) (w : World), wpAny P md ops Q fuel listed a w → wpAnyIn (Fence.wide.inRound l) n P md ops Q fuel listed a w
  | 0, _, _, _, h => h
  | fuel + 1, listed, a, w, h => ⟨h.1, fun i hi => by
    have h2 := h.2 i hi
    unfold wpOp at h2
    unfold wpOpIn
    cases ho : ops[i]? with
    | none => rw [ho] at h2; exact any_in hd hno fuel _ _ _ h2
    | some o =>
      rw [ho] at h2
      simp only at h2 ⊢
      split
      · rename_i hw
        rw [if_pos hw] at h2
        exact Oper.wpIn_mono (fun a' w' h' => any_in hd hno fuel _ a' w' h') (op_in (hd i o ho) (h2.resolve_right fun h => hno h.2))
      · rename_i hw
        rw [if_neg hw] at h2
        exact ⟨fun _ _ => trivial, any_in hd hno fuel _ _ _ h2⟩⟩
def noDefer (ops : Array Oper) : Bool := ops.all fun o => match o.op with
  | .defer _ => false
  | _ => true
theorem noDefer_spec (h : noDefer ops = true) : ∀ (i : Nat) (o : Oper), ops[i]? = some o → ∀ c, o.op ≠ .defer c := fun i o ho c e => by
  have h1 := Array.all_eq_true_iff_forall_mem.1 h o (Array.mem_of_getElem? ho)
  rw [e] at h1
  cases h1
theorem wpIn_region_last (S : World → Prop) (z : Nat) {id : Nat} {a : Act} {w : World} (hm : P.follows .mixedOrders = true) (hn : noDefer ops = true) (hS : S w.drew)
    (h : S w.drew → wpAnyL P .any ops (noQ Q) S z ops.size (Array.replicate ops.size false) a w.drew) : (Code.region id ops true).wpIn (Fence.wide.inRound l) n P Q a w :=
  wpIn_noQ (wpIn_region_any hm (any_in (noDefer_spec hn) noQ_lets _ _ _ _ (wpAny_of_last _ _ _ _ (h hS))))
end
end Go.Proofs.Ytmfjndkopkjchaa
