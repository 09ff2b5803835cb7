/- Take. -/
import Derived.Test.YthofimkjemhnoaaPBTr
namespace Go.Proofs.Ythofimkjemhnoaa
open Go.RowKit Go.Shelf
attribute [local go_sem] Oper.semAt_some
set_option linter.unusedSimpArgs false
set_option linter.unusedVariables false
theorem keeps_cells {W W' : World} {row : Option Nat} (hg : W.grownBy W' row) (hr : ∀ r, row = some r → ∃ o : Obj, W.heap[r]? = some o ∧ o.isCells = false) (td : TypeId) : KpT td W W' :=
  ⟨hg.size, fun k cs fr hk => hg.block k (Array.getElem?_eq_some_iff.1 hk).1 (fun e => by
    obtain ⟨o, ho, hc⟩ := hr k e.symm
    rw [hk] at ho; cases ho; cases hc)⟩
section
variable {W W' : World} {base e s n td : Nat} {v : Value} {xs : List Value}
theorem kpt_grown (ho : W.ownsRow base e s v n xs) (hg : W.grownBy W' v.ownBlock) (hne : e ≠ td) : KpT td W W' :=
  ⟨hg.size, fun k cs fr hk => hg.block k (Array.getElem?_eq_some_iff.1 hk).1 (fun e => own_ne ho hk hne e.symm)⟩
theorem keepsF_grown {B : Nat} (ho : W.ownsRow base e s v n xs) (hg : W.grownBy W' v.ownBlock) : KeepsFrom B W W' :=
  ⟨hg.size, fun k o _ hk hc => (hg.block k (Array.getElem?_eq_some_iff.1 hk).1 (fun e => by
    obtain ⟨cs, h⟩ := own_ty ho e.symm
    rw [hk] at h; cases h; cases hc)).trans hk⟩
theorem kpt_tch {q tb : Nat} {cs : Array Value} {fr : Nat × Nat} (hb : W.heap[q]? = some (.cells cs tb fr)) (ho : W.ownsRow base e s v n xs) (ht : Tch W W' q v) (h1 : tb ≠ td) (h2 : e ≠ td) : KpT td W W' :=
  ⟨ht.size, fun k cs fr hk => ht.block k (Array.getElem?_eq_some_iff.1 hk).1 (fun e => by subst e; rw [hk] at hb; cases hb; exact h1 rfl) (own_ne ho hk h2)⟩
theorem keepsF_tch {B q tb : Nat} {cs : Array Value} {fr : Nat × Nat} (hb : W.heap[q]? = some (.cells cs tb fr)) (ho : W.ownsRow base e s v n xs) (ht : Tch W W' q v) : KeepsFrom B W W' :=
  ⟨ht.size, fun k o _ hk hc => (ht.block k (Array.getElem?_eq_some_iff.1 hk).1 (fun e => by subst e; rw [hk] at hb; cases hb; cases hc) (fun e => by
    obtain ⟨cs, h⟩ := own_ty ho e
    rw [hk] at h; cases h; cases hc)).trans hk⟩
theorem kf_t {B : Nat} {a b c : World} (h : KeepsFrom B a b) (k : KeepsFrom B b c) : KeepsFrom B a c := ⟨Nat.le_trans h.size k.size, fun i o hB hi ho => k.same i o hB (h.same i o hB hi ho) ho⟩
theorem kf_below {B : Nat} (h : Below W.heap.size W W') : KeepsFrom B W W' := ⟨h.size, fun k o _ hk _ => (h.block k (Array.getElem?_eq_some_iff.1 hk).1).trans hk⟩
theorem kpt_set {g t : Nat} {cs : Array Value} {fr : Nat × Nat} (hb : W.heap[g]? = some (.cells cs t fr)) (hne : t ≠ td) (o : Nat) (x : Value) : KpT td W (W.setCell ⟨g, o, none⟩ x) :=
  ⟨by simp, fun k cs' fr' hk => Below.heap_setCell _ _ _ _ (fun e => by subst e; rw [hk] at hb; cases hb; exact hne rfl)⟩
end
theorem res_eq {fn : Func} {t : Tmp} {tmps : Array Value} {P : Program} {w : World} {v : Value} (h : fn.results = #[.tmp t]) (e : tmps.getD t undef = v) : (results fn tmps).run P w = .ok v w := by rw [← e]; exact results_tmp h _ _ _
theorem wp_nopanic {P : Program} {c : Code} {next : Act → World → Prop} {Q : Exit → Act → World → Prop} {a : Act} {w : World} (h : c.wp P (Exit.then next (fun _ _ _ => False)) a w) : c.wp P (Exit.then next Q) a w :=
  wp_mono h (fun e a w hh => by cases e with | normal => exact hh | _ => exact absurd hh id)
/-- One value of one cell is appended to a row of the call's own. -/
theorem wpListIn_one {F : Fence} {k : Nat} {P : Program} {wr : World} {ops : Array Oper} {rest : List Oper} {o : Oper} {a : Act} {Q : Exit → Act → World → Prop} {base t e n by_ : Nat} {p z : Value} {xs : List Value} {v : Value} (hgd : o.guard = none) (s x : Operand)
    (ho : o.op = .call { callee := .builtin .append, args := #[s, x], argTypes := #[t, t] }) (ht : P.underlying t = some (.slice e))
    (hinfo : (P.info? e).map (fun i => (i.zero, i.size, i.bytes)) = some (some z, 1, by_)) (hz : z.cells.size = 1) (hby : by_ ≤ 16) (hs : a.eval s = v) (hown : wr.ownsRow base e 1 v n xs)
    (hx : a.eval x = .slice (some ⟨wr.heap.size, 0, none⟩) 1 1) (hp : p.oneCell' = true) (hn : n ≤ 1000000) (hb : base ≤ wr.heap.size)
    (h : ∀ v' w', w'.ownsRow base e 1 v' (n + 1) (xs ++ [p]) → (wr.alloc (.cells #[p] e)).grownBy w' v.ownBlock → wpListIn F k P ops Q rest (a.put o.dst v') w') :
    wpListIn F k P ops Q (o :: rest) a (wr.alloc (.cells #[p] e)) := by
  obtain ⟨i0, hi, hz0, hz1, hz2⟩ : ∃ i, P.info? e = some i ∧ i.zero = some z ∧ i.size = 1 ∧ i.bytes = by_ := by
    cases hh : P.info? e with
    | none => rw [hh] at hinfo; cases hinfo
    | some i => rw [hh] at hinfo; simp only [Option.map_some, Option.some.injEq, Prod.mk.injEq] at hinfo; exact ⟨i, rfl, hinfo.1, hinfo.2.1, hinfo.2.2⟩
  have hbn : (n + 1) * by_ ≤ (n + 1) * 16 := Nat.mul_le_mul_left _ hby
  refine wpListIn_append_own _ hgd s x t ho base e i0 z 1 by_ ht hi hz0 hz1 hz2 hz (by omega) v n xs hs (hown.alloc _) ⟨wr.heap.size, 0, none⟩ 1 1 [p] hx rfl ?_ (by simpa using hp) (by simp only [maxLen]; omega) (by omega) (by simp; omega) ?_
  · intro j u hu
    have hc : ∀ k, (wr.alloc (.cells #[p] e)).cell? ⟨wr.heap.size, k, none⟩ = (#[p] : Array Value)[k]? := fun k => by rw [cell_of_row _ _ _ _ e (0, 0) (heap_alloc_new wr _)]
    have hplain : (⟨wr.heap.size, 0, none⟩ : Addr).add j = ⟨wr.heap.size, j, none⟩ := by unfold Addr.add; split <;> simp_all
    rw [hplain, hc j, ← hu]
    match j with
    | 0 => rfl
    | j + 1 => simp
  · intro v' w' h1 h2 _
    exact h v' w' h1 h2

theorem infoI : (Try.prog.info? 3).map (fun i => (i.zero, i.size, i.bytes)) = some (some (.int .i64 0), 1, 8) := by kernel_rfl
theorem cut_leI (k : Int) (T : List (Int × Int)) : (cutI k T).length ≤ T.length := by
  cases h : hasI k T with
  | false => rw [cutI_no h]; exact Nat.le_refl _
  | true => have := (cutI_yes eI h).2; omega
def cutsI (l T : List (Int × Int)) : List (Int × Int) := l.foldl (fun t x => cutI x.1 t) T
theorem cuts_snocI (l T : List (Int × Int)) (x : Int × Int) : cutsI (l ++ [x]) T = cutI x.1 (cutsI l T) := by simp [cutsI]
theorem cuts_okI (l : List (Int × Int)) : ∀ T : List (Int × Int), Rise T → Rise (cutsI l T) ∧ (cutsI l T).length ≤ T.length := by
  induction l with
  | nil => exact fun T h => ⟨h, Nat.le_refl _⟩
  | cons x l ih => exact fun T h => ⟨(ih _ (rise_cut x.1 T h)).1, Nat.le_trans (ih _ (rise_cut x.1 T h)).2 (cut_leI x.1 T)⟩
structure TakBI (B : Nat) (W : World) (g : Nat) (now : Int) (kv : Value) : Prop where
  p : W.heap[B]? = some (.cells #[.pointer (some ⟨g, 0, none⟩)] 62 (0, 0))
  n : W.heap[B + 1]? = some (.cells #[.int .i64 now] 3 (0, 0))
  k : W.heap[B + 2]? = some (.cells #[kv] 54 (0, 0))
theorem TakBI.kpt {B : Nat} {W W' : World} {g : Nat} {now : Int} {kv : Value} (h : TakBI B W g now kv) (hk : ∀ k, B ≤ k → k < B + 3 → W'.heap[k]? = W.heap[k]?) : TakBI B W' g now kv :=
  ⟨(hk _ (by omega) (by omega)).trans h.p, (hk _ (by omega) (by omega)).trans h.n, (hk _ (by omega) (by omega)).trans h.k⟩
theorem TakBI.set {B : Nat} {W : World} {g : Nat} {now : Int} {kv : Value} (h : TakBI B W g now kv) (kv' : Value) : TakBI B (W.setCell ⟨B + 2, 0, none⟩ kv') g now kv' :=
  ⟨(Below.heap_setCell _ _ _ _ (by simp)).trans h.p, (Below.heap_setCell _ _ _ _ (by simp)).trans h.n, one_set h.k kv'⟩
theorem TmI.kpt {W W' : World} {base g s : Nat} {L T : List (Int × Int)} {v u : Value} (h : TmI W base g s L T v u) (h1 : KpT 82 W W') (h2 : KpT 93 W W') (h3 : KpT 90 W W') (h4 : KpT 98 W W') : TmI W' base g s L T v u :=
  ⟨(h1.2 _ _ _ h.box).trans h.box, kpt_own h2 h.row, ⟨(h3.2 _ _ _ h.sh.box).trans h.sh.box, kpt_own h4 h.sh.row, h.sh.isnt⟩⟩
structure TakII (w : World) (base g s : Nat) (now : Int) (L T : List (Int × Int)) (v u : Value) (pre : List (Int × Int)) (W : World) : Prop where
  ex : ∃ u' kv, TakBI w.heap.size W g now kv ∧ TmI W base g s L (cutsI pre T) v u' ∧ W.ownsRow (w.heap.size + 3) 3 1 kv pre.length (pre.map fun x => .int .i64 x.1) ∧ Nx w u u' ∧ TchT w W g s v u ∧ w.heap.size + 3 ≤ W.heap.size
  le : ∀ x ∈ pre, x.2 ≤ now
def TakXI (w : World) (base g s : Nat) (now : Int) (L T : List (Int × Int)) (v u : Value) (c : Code) (pre : List (Int × Int)) (W : World) : Prop :=
  c = .exit 0 ∧ ∃ pre' x, pre = pre' ++ [x] ∧ now < x.2 ∧ TakII w base g s now L T v u pre' W
theorem takI_ownI (w : World) (base g s : Nat) (now : Int) (L T : List (Int × Int)) (v u : Value) (N : Nat) (hN : w.heap.size + 3 ≤ N) : OwnFrom N (TakII w base g s now L T v u) := by
  rintro pre W W' row ⟨⟨u', kv, hb, ht, hk, hx, hc, hz⟩, hl⟩ hg hr
  have hkp := keeps_cells hg (fun r e => (hr r e).2)
  refine ⟨⟨u', kv, hb.kpt (fun k h1 h2 => hg.block k (by omega) (fun e => by have := (hr k e.symm).1; omega)), ht.kpt (hkp _) (hkp _) (hkp _) (hkp _), kpt_own (hkp _) hk, hx, ?_, Nat.le_trans hz hg.size⟩, hl⟩
  exact ⟨hg.os.trans hc.os, hg.tape.trans hc.tape, hg.output.trans hc.output, Nat.le_trans hc.size hg.size, fun k hk h1 h2 h3 h4 => (hg.block k (Nat.lt_of_lt_of_le hk hc.size) (fun e => by have := (hr k e.symm).1; omega)).trans (hc.block k hk h1 h2 h3 h4)⟩
theorem takX_ownI (w : World) (base g s : Nat) (now : Int) (L T : List (Int × Int)) (v u : Value) (N : Nat) (hN : w.heap.size + 3 ≤ N) (c : Code) : OwnFrom N (TakXI w base g s now L T v u c) := by
  rintro pre W W' row ⟨rfl, pre', x, rfl, hx, hI⟩ hg hr
  exact ⟨rfl, pre', x, rfl, hx, takI_ownI w base g s now L T v u N hN pre' W W' row hI hg hr⟩
/-- What Take does. -/
def TookI (w : World) (base g s : Nat) (L T : List (Int × Int)) (v u : Value) (now : Int) (e : Ending) (w' : World) : Prop :=
  ∃ m kv, m ≤ L.length ∧ (∀ x ∈ L.take m, x.2 ≤ now) ∧ (∀ x, L[m]? = some x → now < x.2) ∧ e = .returned kv ∧ w'.ownsRow (w.heap.size + 3) 3 1 kv m ((L.take m).map fun x => .int .i64 x.1) ∧ GoI w base g s (L.drop m) (cutsI (L.take m) T) v u w'
/-- What lies when the walk is over, and the line is cut. -/
theorem tak_cutI {w W : World} {base g s m : Nat} {now : Int} {L T : List (Int × Int)} {v u u' kv : Value} (ht : TmI W base g s L (cutsI (L.take m) T) v u') (hk : W.ownsRow (w.heap.size + 3) 3 1 kv m ((L.take m).map fun x => .int .i64 x.1)) (hx : Nx w u u') (hc : TchT w W g s v u)
    (hm : m ≤ L.length) (hle : ∀ x ∈ L.take m, x.2 ≤ now) (hgt : ∀ x, L[m]? = some x → now < x.2) {x w6 : World} {v6 : Value} {D : Nat} (hd : Below W.heap.size W x) (hr : w6.ownsRow base 93 2 v6 (L.drop m).length (fl eI eI (L.drop m))) (hg : x.grownBy w6 v.ownBlock)
    (ho : v6.ownBlock = v.ownBlock ∨ ∃ b, v6.ownBlock = some b ∧ x.heap.size ≤ b) (hD : w.heap.size ≤ D) (hK : W.heap[D]? = some (.deferred (some []))) :
    (w6.setCell ⟨g, 1, none⟩ v6).heap[D]? = some (.deferred (some [])) ∧ TookI w base g s L T v u now (.returned kv) ((w6.setCell ⟨g, 1, none⟩ v6).putObj D (.deferred none)) := by
  have htx := ht.below hd
  have hl := htx.line hg hr
  have hDx : x.heap[D]? = some (.deferred (some [])) := (hd.block D (Array.getElem?_eq_some_iff.1 hK).1).trans hK
  have hD6 : w6.heap[D]? = some (.deferred (some [])) := (hg.block D (Array.getElem?_eq_some_iff.1 hDx).1 (fun e => by
    obtain ⟨cs, h⟩ := own_ty htx.row e.symm
    rw [hDx] at h; cases h)).trans hDx
  have hDg : D ≠ g := fun e => by subst e; rw [htx.box] at hDx; cases hDx
  have hD7 : (w6.setCell ⟨g, 1, none⟩ v6).heap[D]? = some (.deferred (some [])) := (Below.heap_setCell _ _ _ _ hDg).trans hD6
  have hkp : ∀ td, KpT td (w6.setCell ⟨g, 1, none⟩ v6) ((w6.setCell ⟨g, 1, none⟩ v6).putObj D (.deferred none)) := fun td => kpt_put hD7 rfl
  have hb6 := (hg.block g htx.lt (fun e => htx.vg e.symm)).trans htx.box
  refine ⟨hD7, m, kv, hm, hle, hgt, rfl, ?_, v6, u', hl.kpt (hkp _) (hkp _) (hkp _) (hkp _), (Nx.rfl' w v).trans (show Nx x v v6 from ho) (Nat.le_trans hc.size hd.size), hx, ?_⟩
  · exact kpt_own (hkp _) (kpt_own (kpt_set hb6 (by decide) 1 v6) (kpt_own (kpt_grown htx.row hg (by decide)) (own_below hk hd)))
  · have h1 := ((hc.trans (TchT.below_ (g := g) (s := s) (v := v) (u := u') hd) (.rfl' _ _) hx).trans (TchT.grown (g := g) (s := s) (u := u') hg) (.rfl' _ _) hx).trans (TchT.set (g := g) (s := s) (v := v6) (u := u') 1 v6) ((Nx.rfl' w v).trans (show Nx x v v6 from ho) (Nat.le_trans hc.size hd.size)) hx
    exact ⟨h1.os, h1.tape, h1.output, by simpa using h1.size, fun k hk a b c d => (World.putObj_heap_other (fun e => by omega)).trans (h1.block k hk a b c d)⟩
end Go.Proofs.Ythofimkjemhnoaa