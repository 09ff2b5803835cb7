/- What a nil queue answers; what a round that calls Take and Put keeps. -/
import Derived.Test.YtnhlmpomgbpoiaaQj
namespace Go.Proofs.Ytnhlmpomgbpoiaa
open Go.RowKit Go.Shelf
attribute [local go_sem] Oper.semAt_some

theorem len_nil (w : World) : Calls Try.prog 20 #[.pointer none] w fun e w' => e = .returned (.int .i64 0) ∧ w = w' := by
  go_enter Try.func20, Try.ntmps20
  go_wp2_with fail
  go_ret
  exact ⟨rfl, rfl⟩
theorem room_nil (w : World) : Calls Try.prog 24 #[.pointer none] w fun e w' => e = .returned (.int .i64 0) ∧ w = w' := by
  go_enter Try.func24, Try.ntmps24
  go_wp2_with fail
  go_ret
  exact ⟨rfl, rfl⟩
theorem lost_nil (w : World) : Calls Try.prog 21 #[.pointer none] w fun e w' => e = .returned (.int .i64 0) ∧ w = w' := by
  go_enter Try.func21, Try.ntmps21
  go_wp2_with fail
  go_ret
  exact ⟨rfl, rfl⟩
theorem fork_nil (w : World) : Calls Try.prog 17 #[.pointer none] w fun e w' => e = .returned (.pointer none) ∧ w = w' := by
  go_enter Try.func17, Try.ntmps17
  go_wp2_with fail
  go_ret
  exact ⟨rfl, rfl⟩
theorem put_nil (w : World) (v : Value) : Calls Try.prog 9 #[.pointer none, v] w fun e w' => e = .returned (.int .i64 0) ∧ w = w' := by
  go_enter Try.func9, Try.ntmps9
  go_wp2_with fail
  go_ret
  exact ⟨rfl, rfl⟩
theorem peek_nil (w : World) : Calls Try.prog 29 #[.pointer none] w fun e w' => e = .returned (.tuple #[.int .i64 0, .bool false]) ∧ w = w' := by
  go_enter Try.func29, Try.ntmps29
  go_wp2_with (go_at_call 20; refine (len_nil _).mono ?_; rintro e w' ⟨rfl, rfl⟩)
  go_ret2
  exact ⟨rfl, rfl⟩
theorem take_nil (w : World) : Calls Try.prog 11 #[.pointer none] w fun e w' => e = .returned (.tuple #[.int .i64 0, .bool false]) ∧ w = w' := by
  go_enter Try.func11, Try.ntmps11
  go_wp2_with (go_at_call 29; refine (peek_nil _).mono ?_; rintro e w' ⟨rfl, rfl⟩)
  go_ret2
  exact ⟨rfl, rfl⟩
theorem clear_nil (w : World) : Calls Try.prog 16 #[.pointer none] w fun e w' => e = .returned (.tuple #[]) ∧ w = w' := by
  go_enter Try.func16, Try.ntmps16
  go_wp2_with fail
  go_end0
  exact ⟨rfl, rfl⟩
theorem drop_nil (w : World) : CallsIn Fence.wide 8 Try.prog 13 #[.pointer none, .func (Fn.func 23) #[] #[]] w fun e w' => e = .returned (.int .i64 0) ∧ Below w.heap.size w w' := by
  have hb : Below w.heap.size w (w.alloc (.cells #[.func (Fn.func 23) #[] #[]] 39)) := (Below.refl _ _).alloc (Nat.le_refl _) _
  refine callsIn_of_wp_marks Try.func13 rfl trivial ?_ rfl
  simp only [Try.ntmps13, List.size_toArray, List.length_cons, List.length_nil, Nat.reduceAdd, Nat.reduceSub, Array.replicate_succ, Array.replicate_zero, List.push_toArray, List.append_toArray, List.nil_append, List.cons_append]
  gi_wp2_with fail
  exact ⟨_, results_tmp rfl _ _ _, rfl, hb⟩

/-- A nil queue's function yields nothing. -/
theorem all_none (n : Nat) (gb : Nat) (w : World) (hbox : w.heap[gb]? = some (.cells #[.pointer none] 23 (0, 0))) :
    SeqStopsK Fence.wide n Try.prog 31 #[.pointer (some ⟨gb, 0, none⟩)] (fun x : Elt => #[Value.int .i64 (x.1 : Nat), Value.int .i64 x.2]) (Kq (fun _ => False) (fun _ => none)) (fun ys => ys = []) (fun _ => False) 0 w := fun l J Jx W hW _ _ _ h0 => by
  have cb : W.cell? ⟨gb, 0, none⟩ = some (.pointer none) := by rw [cell_of_row _ _ _ _ _ _ ((hW.block gb (Array.getElem?_eq_some_iff.1 hbox).1).trans hbox)]; rfl
  clear hbox
  refine callsIn_of_wp Try.func31 rfl trivial ?_ rfl
  simp only [Try.ntmps31, List.size_toArray, List.length_cons, List.length_nil, Nat.reduceAdd, Nat.reduceSub, Array.replicate_succ, Array.replicate_zero, List.push_toArray, List.append_toArray, List.nil_append, List.cons_append]
  gi_wp2_with fail
  refine bodyPost_ret (results_none rfl _ _ _) rfl ?_
  exact ⟨⟨_, rfl⟩, by first | exact Or.inl ⟨_, rfl, h0⟩ | exact h0 | exact ⟨_, rfl, h0⟩⟩

/-- A range over a function that yields nothing. -/
theorem range_none {g : Operand} {ps : Array Tmp} {body : Code} {Q : Exit → Act → World → Prop} {a : Act} {w : World} {n : Nat} (h1 : 1 ≤ n) {gf : Nat} {lb : Array Value} (hg : a.eval g = .func (.func gf) #[] lb) (eg : ∀ args w, (callFunc gf args).run Try.prog w = .ok (.enter gf args) w)
    (hseq : SeqStopsK Fence.wide (n - 1) Try.prog gf lb (fun x : Elt => #[Value.int .i64 (x.1 : Nat), Value.int .i64 x.2]) (Kq (fun _ => False) (fun _ => none)) (fun ys => ys = []) (fun _ => False) 0 w) (hps : 2 = ps.size)
    (I : World → Prop) (hI : OwnFrom w.heap.size (fun (_ : List Elt) W => I W)) (h0 : I w)
    (hdone : ∀ (D : Nat) (W : World), w.heap.size ≤ D → I W → W.heap[D]? = some (.deferred (some [])) → Q .normal { a with defers := { target := .collected D, args := #[] } :: a.defers } W) :
    (Code.rangeFunc g ps Code.skip body).wpIn Fence.wide n Try.prog Q a w := by
  refine wpIn_rangeFunc_ownG rfl h1 hg trivial eg hseq kq_t (kq_b fun _ _ _ _ => rfl) (Below.refl _ _) (fun _ => hps) (fun _ W => I W) (fun _ _ _ => False) hI (fun _ => ownFrom_pure _ _) h0
    (fun x => { tmps := (ps.zip #[Value.int .i64 (x.1 : Nat), Value.int .i64 x.2]).foldl (fun t (p, v) => t.setIfInBounds p v) a.tmps, defers := [] }) ?assign ?body ?done ?stop
  case assign =>
    intro lp x W K hK
    exact wpIn_skip hK
  case body =>
    intro lp pre x W _ hlt
    exact absurd hlt (by omega)
  case done =>
    rintro D ys W hD _ hW hK
    exact hdone D W hD hW hK
  case stop =>
    rintro D cc pre W _ h _ _
    exact h.elim

/-- The block that a queue's things lie in, as the world tells it. -/
def tbq (g : Nat) (W : World) : Option Nat := match W.cell? ⟨g, 1, none⟩ with
  | some (.slice A _ _) => blk A
  | _ => none
section
variable {w w' : World} {base g n c n' c' : Nat} {lim lost lost' : Int} {vs vs' : List Value} {A A' : Option Addr}
theorem Que.tbq (h : Que w base g lim vs lost A n c) : tbq g w = blk A := by unfold Ytnhlmpomgbpoiaa.tbq; rw [h.cells.2.1]
theorem tbq_same (h : w'.heap[g]? = w.heap[g]?) : Ytnhlmpomgbpoiaa.tbq g w' = Ytnhlmpomgbpoiaa.tbq g w := by
  unfold Ytnhlmpomgbpoiaa.tbq
  rw [World.cell?_of_block (a := ⟨g, 1, none⟩) h]
theorem kq_tch {Fx : Nat → Prop} (h : Que w base g lim vs lost A n c) (h' : Que w' base g lim vs' lost' A' n' c') (ht : Tch w w' g A) (hn : Nxt w A A') (hF : Fx g) : Kq Fx (Ytnhlmpomgbpoiaa.tbq g) w w' := by
  refine ⟨ht.size, fun k _ _ _ hk hf hb => ht.block k (Array.getElem?_eq_some_iff.1 hk).1 (fun e => hf (e ▸ hF)) (fun e => hb (by rw [h.tbq, e])), ?_⟩
  rw [h.tbq, h'.tbq]
  exact hn
theorem kq_below {Fx : Nat → Prop} (h : Que w base g lim vs lost A n c) (hb : Below w.heap.size w w') : Kq Fx (Ytnhlmpomgbpoiaa.tbq g) w w' :=
  ⟨hb.size, fun k _ _ _ hk _ _ => hb.block k (Array.getElem?_eq_some_iff.1 hk).1, .inl (tbq_same (hb.block g h.lt))⟩
theorem Que.own {Bn : Nat} {row : Option Nat} (h : Que w base g lim vs lost A n c) (hg : w.grownBy w' row) (hr : ∀ r, row = some r → Bn ≤ r ∧ ∃ o : Obj, w.heap[r]? = some o ∧ o.isCells = false) : Que w' base g lim vs lost A n c := by
  have key : ∀ k cs t fr, w.heap[k]? = some (Obj.cells cs t fr) → w'.heap[k]? = w.heap[k]? := fun k _ _ _ hk => hg.block k (Array.getElem?_eq_some_iff.1 hk).1 (fun e => by
    obtain ⟨_, o, ho, hc⟩ := hr k e.symm
    rw [hk] at ho; cases ho; cases hc)
  refine h.keep (key g _ _ _ h.box) fun b hb => ?_
  rcases h.row.lies with ⟨rfl, _⟩ | ⟨b', off, cur, rfl, h1, h2, _⟩
  · cases hb
  · cases hb; exact key _ _ _ _ h2
theorem keeps_tch {Bn : Nat} (h : Que w base g lim vs lost A n c) (ht : Tch w w' g A) : KeepsFrom Bn w w' := by
  refine ⟨ht.size, fun k o _ hk hc => (ht.block k (Array.getElem?_eq_some_iff.1 hk).1 (fun e => ?_) (fun e => ?_)).trans hk⟩
  · subst e
    rw [h.box] at hk; cases hk; cases hc
  · rcases h.row.lies with ⟨rfl, _⟩ | ⟨b', off, cur, rfl, h1, h2, _⟩
    · cases e
    · cases e; rw [h2] at hk; cases hk; cases hc
theorem keeps_below {Bn : Nat} (hb : Below w.heap.size w w') : KeepsFrom Bn w w' := ⟨hb.size, fun k _ _ hk _ => (hb.block k (Array.getElem?_eq_some_iff.1 hk).1).trans hk⟩
theorem neq_told (w : World) (g : Nat) : (binOp .neq 50 (.func (Fn.func 31) #[] #[.pointer (some ⟨g, 0, none⟩)]) .nilFunc).run Try.prog w = .ok (.bool true) w := by
  simp only [binOp]
  simp [Op.equal, Op.maxDepth, run_equalIn_func_nil w 9999 50 Try.underlying50 _ _ _]
end
end Go.Proofs.Ytnhlmpomgbpoiaa
