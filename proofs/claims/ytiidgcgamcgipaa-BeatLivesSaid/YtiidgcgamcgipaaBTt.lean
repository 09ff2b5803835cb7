/- Take. -/
import Derived.Test.YtiidgcgamcgipaaBTr
namespace Go.Proofs.Ytiidgcgamcgipaa
open Go.RowKit Go.Shelf
attribute [local go_sem] Oper.semAt_some
set_option linter.unusedSimpArgs false
set_option linter.unusedVariables false
theorem keeps_cells {W W' : World} {row : Option Nat} (hg : W.grownBy W' row) (hr : ∀ r, row = some r → ∃ o : Obj, W.heap[r]? = some o ∧ o.isCells = false) (td : TypeId) : KpT td W W' :=
  ⟨hg.size, fun k cs fr hk => hg.block k (Array.getElem?_eq_some_iff.1 hk).1 (fun e => by
    obtain ⟨o, ho, hc⟩ := hr k e.symm
    rw [hk] at ho; cases ho; cases hc)⟩
section
variable {W W' : World} {base e s n td : Nat} {v : Value} {xs : List Value}
theorem kpt_grown (ho : W.ownsRow base e s v n xs) (hg : W.grownBy W' v.ownBlock) (hne : e ≠ td) : KpT td W W' :=
  ⟨hg.size, fun k cs fr hk => hg.block k (Array.getElem?_eq_some_iff.1 hk).1 (fun e => own_ne ho hk hne e.symm)⟩
theorem keepsF_grown {B : Nat} (ho : W.ownsRow base e s v n xs) (hg : W.grownBy W' v.ownBlock) : KeepsFrom B W W' :=
  ⟨hg.size, fun k o _ hk hc => (hg.block k (Array.getElem?_eq_some_iff.1 hk).1 (fun e => by
    obtain ⟨cs, h⟩ := own_ty ho e.symm
    rw [hk] at h; cases h; cases hc)).trans hk⟩
theorem kpt_tch {q tb : Nat} {cs : Array Value} {fr : Nat × Nat} (hb : W.heap[q]? = some (.cells cs tb fr)) (ho : W.ownsRow base e s v n xs) (ht : Tch W W' q v) (h1 : tb ≠ td) (h2 : e ≠ td) : KpT td W W' :=
  ⟨ht.size, fun k cs fr hk => ht.block k (Array.getElem?_eq_some_iff.1 hk).1 (fun e => by subst e; rw [hk] at hb; cases hb; exact h1 rfl) (own_ne ho hk h2)⟩
theorem keepsF_tch {B q tb : Nat} {cs : Array Value} {fr : Nat × Nat} (hb : W.heap[q]? = some (.cells cs tb fr)) (ho : W.ownsRow base e s v n xs) (ht : Tch W W' q v) : KeepsFrom B W W' :=
  ⟨ht.size, fun k o _ hk hc => (ht.block k (Array.getElem?_eq_some_iff.1 hk).1 (fun e => by subst e; rw [hk] at hb; cases hb; cases hc) (fun e => by
    obtain ⟨cs, h⟩ := own_ty ho e
    rw [hk] at h; cases h; cases hc)).trans hk⟩
theorem kf_t {B : Nat} {a b c : World} (h : KeepsFrom B a b) (k : KeepsFrom B b c) : KeepsFrom B a c := ⟨Nat.le_trans h.size k.size, fun i o hB hi ho => k.same i o hB (h.same i o hB hi ho) ho⟩
theorem kf_below {B : Nat} (h : Below W.heap.size W W') : KeepsFrom B W W' := ⟨h.size, fun k o _ hk _ => (h.block k (Array.getElem?_eq_some_iff.1 hk).1).trans hk⟩
theorem kpt_set {g t : Nat} {cs : Array Value} {fr : Nat × Nat} (hb : W.heap[g]? = some (.cells cs t fr)) (hne : t ≠ td) (o : Nat) (x : Value) : KpT td W (W.setCell ⟨g, o, none⟩ x) :=
  ⟨by simp, fun k cs' fr' hk => Below.heap_setCell _ _ _ _ (fun e => by subst e; rw [hk] at hb; cases hb; exact hne rfl)⟩
end
theorem res_eq {fn : Func} {t : Tmp} {tmps : Array Value} {P : Program} {w : World} {v : Value} (h : fn.results = #[.tmp t]) (e : tmps.getD t undef = v) : (results fn tmps).run P w = .ok v w := by rw [← e]; exact results_tmp h _ _ _
theorem wp_nopanic {P : Program} {c : Code} {next : Act → World → Prop} {Q : Exit → Act → World → Prop} {a : Act} {w : World} (h : c.wp P (Exit.then next (fun _ _ _ => False)) a w) : c.wp P (Exit.then next Q) a w :=
  wp_mono h (fun e a w hh => by cases e with | normal => exact hh | _ => exact absurd hh id)
/-- One value of one cell is appended to a row of the call's own. -/
theorem wpListIn_one {F : Fence} {k : Nat} {P : Program} {wr : World} {ops : Array Oper} {rest : List Oper} {o : Oper} {a : Act} {Q : Exit → Act → World → Prop} {base t e n by_ : Nat} {p z : Value} {xs : List Value} {v : Value} (hgd : o.guard = none) (s x : Operand)
    (ho : o.op = .call { callee := .builtin .append, args := #[s, x], argTypes := #[t, t] }) (ht : P.underlying t = some (.slice e))
    (hinfo : (P.info? e).map (fun i => (i.zero, i.size, i.bytes)) = some (some z, 1, by_)) (hz : z.cells.size = 1) (hby : by_ ≤ 16) (hs : a.eval s = v) (hown : wr.ownsRow base e 1 v n xs)
    (hx : a.eval x = .slice (some ⟨wr.heap.size, 0, none⟩) 1 1) (hp : p.oneCell' = true) (hn : n ≤ 1000000) (hb : base ≤ wr.heap.size)
    (h : ∀ v' w', w'.ownsRow base e 1 v' (n + 1) (xs ++ [p]) → (wr.alloc (.cells #[p] e)).grownBy w' v.ownBlock → wpListIn F k P ops Q rest (a.put o.dst v') w') :
    wpListIn F k P ops Q (o :: rest) a (wr.alloc (.cells #[p] e)) := by
  obtain ⟨i0, hi, hz0, hz1, hz2⟩ : ∃ i, P.info? e = some i ∧ i.zero = some z ∧ i.size = 1 ∧ i.bytes = by_ := by
    cases hh : P.info? e with
    | none => rw [hh] at hinfo; cases hinfo
    | some i => rw [hh] at hinfo; simp only [Option.map_some, Option.some.injEq, Prod.mk.injEq] at hinfo; exact ⟨i, rfl, hinfo.1, hinfo.2.1, hinfo.2.2⟩
  have hbn : (n + 1) * by_ ≤ (n + 1) * 16 := Nat.mul_le_mul_left _ hby
  refine wpListIn_append_own _ hgd s x t ho base e i0 z 1 by_ ht hi hz0 hz1 hz2 hz (by omega) v n xs hs (hown.alloc _) ⟨wr.heap.size, 0, none⟩ 1 1 [p] hx rfl ?_ (by simpa using hp) (by simp only [maxLen]; omega) (by omega) (by simp; omega) ?_
  · intro j u hu
    have hc : ∀ k, (wr.alloc (.cells #[p] e)).cell? ⟨wr.heap.size, k, none⟩ = (#[p] : Array Value)[k]? := fun k => by rw [cell_of_row _ _ _ _ e (0, 0) (heap_alloc_new wr _)]
    have hplain : (⟨wr.heap.size, 0, none⟩ : Addr).add j = ⟨wr.heap.size, j, none⟩ := by unfold Addr.add; split <;> simp_all
    rw [hplain, hc j, ← hu]
    match j with
    | 0 => rfl
    | j + 1 => simp
  · intro v' w' h1 h2 _
    exact h v' w' h1 h2

theorem infoI : (Try.prog.info? 3).map (fun i => (i.zero, i.size, i.bytes)) = some (some (.int .i64 0), 1, 8) := by kernel_rfl
theorem cut_leI (k : Int) (T : List (Int × Int)) : (cutI k T).length ≤ T.length := by
  cases h : hasI k T with
  | false => rw [cutI_no h]; exact Nat.le_refl _
  | true => have := (cutI_yes eI h).2; omega
def cutsI (l T : List (Int × Int)) : List (Int × Int) := l.foldl (fun t x => cutI x.1 t) T
theorem cuts_snocI (l T : List (Int × Int)) (x : Int × Int) : cutsI (l ++ [x]) T = cutI x.1 (cutsI l T) := by simp [cutsI]
theorem cuts_okI (l : List (Int × Int)) : ∀ T : List (Int × Int), Rise T → Rise (cutsI l T) ∧ (cutsI l T).length ≤ T.length := by
  induction l with
  | nil => exact fun T h => ⟨h, Nat.le_refl _⟩
  | cons x l ih => exact fun T h => ⟨(ih _ (rise_cut x.1 T h)).1, Nat.le_trans (ih _ (rise_cut x.1 T h)).2 (cut_leI x.1 T)⟩
structure TakBI (B : Nat) (W : World) (g : Nat) (now : Int) (kv : Value) : Prop where
  p : W.heap[B]? = some (.cells #[.pointer (some ⟨g, 0, none⟩)] 72 (0, 0))
  n : W.heap[B + 1]? = some (.cells #[.int .i64 now] 3 (0, 0))
  k : W.heap[B + 2]? = some (.cells #[kv] 60 (0, 0))
theorem TakBI.kpt {B : Nat} {W W' : World} {g : Nat} {now : Int} {kv : Value} (h : TakBI B W g now kv) (hk : ∀ k, B ≤ k → k < B + 3 → W'.heap[k]? = W.heap[k]?) : TakBI B W' g now kv :=
  ⟨(hk _ (by omega) (by omega)).trans h.p, (hk _ (by omega) (by omega)).trans h.n, (hk _ (by omega) (by omega)).trans h.k⟩
theorem TakBI.set {B : Nat} {W : World} {g : Nat} {now : Int} {kv : Value} (h : TakBI B W g now kv) (kv' : Value) : TakBI B (W.setCell ⟨B + 2, 0, none⟩ kv') g now kv' :=
  ⟨(Below.heap_setCell _ _ _ _ (by simp)).trans h.p, (Below.heap_setCell _ _ _ _ (by simp)).trans h.n, one_set h.k kv'⟩
theorem TmI.kpt {W W' : World} {base g s : Nat} {L T : List (Int × Int)} {v u : Value} (h : TmI W base g s L T v u) (h1 : KpT 95 W W') (h2 : KpT 98 W W') (h3 : KpT 103 W W') (h4 : KpT 111 W W') : TmI W' base g s L T v u :=
  ⟨(h1.2 _ _ _ h.box).trans h.box, kpt_own h2 h.row, ⟨(h3.2 _ _ _ h.sh.box).trans h.sh.box, kpt_own h4 h.sh.row, h.sh.isnt⟩⟩
structure TakII (w : World) (base g s : Nat) (now : Int) (L T : List (Int × Int)) (v u : Value) (pre : List (Int × Int)) (W : World) : Prop where
  ex : ∃ u' kv, TakBI w.heap.size W g now kv ∧ TmI W base g s L (cutsI pre T) v u' ∧ W.ownsRow (w.heap.size + 3) 3 1 kv pre.length (pre.map fun x => .int .i64 x.1) ∧ Nx w u u' ∧ TchT w W g s v u ∧ w.heap.size + 3 ≤ W.heap.size
  le : ∀ x ∈ pre, x.2 ≤ now
def TakXI (w : World) (base g s : Nat) (now : Int) (L T : List (Int × Int)) (v u : Value) (c : Code) (pre : List (Int × Int)) (W : World) : Prop :=
  c = .exit 0 ∧ ∃ pre' x, pre = pre' ++ [x] ∧ now < x.2 ∧ TakII w base g s now L T v u pre' W
theorem takI_ownI (w : World) (base g s : Nat) (now : Int) (L T : List (Int × Int)) (v u : Value) (N : Nat) (hN : w.heap.size + 3 ≤ N) : OwnFrom N (TakII w base g s now L T v u) := by
  rintro pre W W' row ⟨⟨u', kv, hb, ht, hk, hx, hc, hz⟩, hl⟩ hg hr
  have hkp := keeps_cells hg (fun r e => (hr r e).2)
  refine ⟨⟨u', kv, hb.kpt (fun k h1 h2 => hg.block k (by omega) (fun e => by have := (hr k e.symm).1; omega)), ht.kpt (hkp _) (hkp _) (hkp _) (hkp _), kpt_own (hkp _) hk, hx, ?_, Nat.le_trans hz hg.size⟩, hl⟩
  exact ⟨hg.os.trans hc.os, hg.tape.trans hc.tape, hg.output.trans hc.output, Nat.le_trans hc.size hg.size, fun k hk h1 h2 h3 h4 => (hg.block k (Nat.lt_of_lt_of_le hk hc.size) (fun e => by have := (hr k e.symm).1; omega)).trans (hc.block k hk h1 h2 h3 h4)⟩
theorem takX_ownI (w : World) (base g s : Nat) (now : Int) (L T : List (Int × Int)) (v u : Value) (N : Nat) (hN : w.heap.size + 3 ≤ N) (c : Code) : OwnFrom N (TakXI w base g s now L T v u c) := by
  rintro pre W W' row ⟨rfl, pre', x, rfl, hx, hI⟩ hg hr
  exact ⟨rfl, pre', x, rfl, hx, takI_ownI w base g s now L T v u N hN pre' W W' row hI hg hr⟩
/-- What Take does. -/
def TookI (w : World) (base g s : Nat) (L T : List (Int × Int)) (v u : Value) (now : Int) (e : Ending) (w' : World) : Prop :=
  ∃ m kv, m ≤ L.length ∧ (∀ x ∈ L.take m, x.2 ≤ now) ∧ (∀ x, L[m]? = some x → now < x.2) ∧ e = .returned kv ∧ w'.ownsRow (w.heap.size + 3) 3 1 kv m ((L.take m).map fun x => .int .i64 x.1) ∧ GoI w base g s (L.drop m) (cutsI (L.take m) T) v u w'
/-- What lies when the walk is over, and the line is cut. -/
theorem tak_cutI {w W : World} {base g s m : Nat} {now : Int} {L T : List (Int × Int)} {v u u' kv : Value} (ht : TmI W base g s L (cutsI (L.take m) T) v u') (hk : W.ownsRow (w.heap.size + 3) 3 1 kv m ((L.take m).map fun x => .int .i64 x.1)) (hx : Nx w u u') (hc : TchT w W g s v u)
    (hm : m ≤ L.length) (hle : ∀ x ∈ L.take m, x.2 ≤ now) (hgt : ∀ x, L[m]? = some x → now < x.2) {x w6 : World} {v6 : Value} {D : Nat} (hd : Below W.heap.size W x) (hr : w6.ownsRow base 98 2 v6 (L.drop m).length (fl eI eI (L.drop m))) (hg : x.grownBy w6 v.ownBlock)
    (ho : v6.ownBlock = v.ownBlock ∨ ∃ b, v6.ownBlock = some b ∧ x.heap.size ≤ b) (hD : w.heap.size ≤ D) (hK : W.heap[D]? = some (.deferred (some []))) :
    (w6.setCell ⟨g, 1, none⟩ v6).heap[D]? = some (.deferred (some [])) ∧ TookI w base g s L T v u now (.returned kv) ((w6.setCell ⟨g, 1, none⟩ v6).putObj D (.deferred none)) := by
  have htx := ht.below hd
  have hl := htx.line hg hr
  have hDx : x.heap[D]? = some (.deferred (some [])) := (hd.block D (Array.getElem?_eq_some_iff.1 hK).1).trans hK
  have hD6 : w6.heap[D]? = some (.deferred (some [])) := (hg.block D (Array.getElem?_eq_some_iff.1 hDx).1 (fun e => by
    obtain ⟨cs, h⟩ := own_ty htx.row e.symm
    rw [hDx] at h; cases h)).trans hDx
  have hDg : D ≠ g := fun e => by subst e; rw [htx.box] at hDx; cases hDx
  have hD7 : (w6.setCell ⟨g, 1, none⟩ v6).heap[D]? = some (.deferred (some [])) := (Below.heap_setCell _ _ _ _ hDg).trans hD6
  have hkp : ∀ td, KpT td (w6.setCell ⟨g, 1, none⟩ v6) ((w6.setCell ⟨g, 1, none⟩ v6).putObj D (.deferred none)) := fun td => kpt_put hD7 rfl
  have hb6 := (hg.block g htx.lt (fun e => htx.vg e.symm)).trans htx.box
  refine ⟨hD7, m, kv, hm, hle, hgt, rfl, ?_, v6, u', hl.kpt (hkp _) (hkp _) (hkp _) (hkp _), (Nx.rfl' w v).trans (show Nx x v v6 from ho) (Nat.le_trans hc.size hd.size), hx, ?_⟩
  · exact kpt_own (hkp _) (kpt_own (kpt_set hb6 (by decide) 1 v6) (kpt_own (kpt_grown htx.row hg (by decide)) (own_below hk hd)))
  · have h1 := ((hc.trans (TchT.below_ (g := g) (s := s) (v := v) (u := u') hd) (.rfl' _ _) hx).trans (TchT.grown (g := g) (s := s) (u := u') hg) (.rfl' _ _) hx).trans (TchT.set (g := g) (s := s) (v := v6) (u := u') 1 v6) ((Nx.rfl' w v).trans (show Nx x v v6 from ho) (Nat.le_trans hc.size hd.size)) hx
    exact ⟨h1.os, h1.tape, h1.output, by simpa using h1.size, fun k hk a b c d => (World.putObj_heap_other (fun e => by omega)).trans (h1.block k hk a b c d)⟩
theorem next_atI (w : World) (base g s : Nat) (x : Int × Int) (L T : List (Int × Int)) (v u : Value) (h : TmI w base g s L T v u) (hx : L[0]? = some x) :
    Calls Try.prog 59 #[.pointer (some ⟨g, 0, none⟩)] w fun e w' => e = .returned (.tuple #[.int .i64 x.2, .bool true]) ∧ w' = w := by
  cases L with
  | nil => cases hx
  | cons y L => cases hx; exact next_yesI w base g s _ L T v u h
set_option maxRecDepth 100000 in
set_option maxHeartbeats 4000000 in
theorem take_yesI (w : World) (base g s : Nat) (x0 : Int × Int) (L T : List (Int × Int)) (v u : Value) (now : Int) (h : TmI w base g s L T v u) (h0 : L[0]? = some x0) (hle : x0.2 ≤ now) (hn : L.length ≤ 900) (hT : T.length ≤ 900) (hrs : Rise T) :
    CallsIn Fence.wide 8 Try.prog 44 #[.pointer (some ⟨g, 0, none⟩), .int .i64 now] w (TookI w base g s L T v u now) := by
  have hb0 : Below w.heap.size w ((w.alloc (.cells #[.pointer (some ⟨g, 0, none⟩)] 72)).alloc (.cells #[.int .i64 now] 3)) := ((Below.refl _ _).alloc (Nat.le_refl _) _).alloc (by simp) _
  have hp0 := heap_alloc2_old w (.cells #[.pointer (some ⟨g, 0, none⟩)] 72) (.cells #[.int .i64 now] 3)
  have hn0 := heap_alloc2_new w (.cells #[.pointer (some ⟨g, 0, none⟩)] 72) (.cells #[.int .i64 now] 3)
  have hz0 : ((w.alloc (.cells #[.pointer (some ⟨g, 0, none⟩)] 72)).alloc (.cells #[.int .i64 now] 3)).heap.size = w.heap.size + 2 := by simp
  have hh0 := h.below hb0
  have hnx := next_atI _ base g s x0 L T v u hh0 h0
  obtain ⟨a, c, rfl⟩ := own_slice h.row
  have HB0 := Lib.hid hb0
  have HP0 := Lib.hid hp0
  have HN0 := Lib.hid hn0
  have HZ0 := Lib.hid hz0
  have HH0 := Lib.hid hh0
  have HNX := Lib.hid hnx
  have HL0 := Lib.hid h0
  have HLE := Lib.hid hle
  have HRS := Lib.hid hrs
  have hsl := h.sh.lt
  have hgl := h.lt
  obtain ⟨xk0, xa0⟩ := x0
  clear hb0 hp0 hn0 hz0 hh0 hnx h h0 hrs
  refine callsIn_of_wp_marks Try.func44 rfl trivial ?_ rfl
  simp only [Try.ntmps44, List.size_toArray, List.length_cons, List.length_nil, Nat.reduceAdd, Nat.reduceSub, Array.replicate_succ, Array.replicate_zero, List.push_toArray, List.append_toArray, List.nil_append, List.cons_append]
  gi_wp2_with fail
  refine ⟨trivial, ?_⟩
  refine (callsIn_wide.2 HNX.out).mono ?_
  rintro e w1 ⟨rfl, rfl⟩
  generalize (w.alloc (.cells #[.pointer (some ⟨g, 0, none⟩)] 72)).alloc (.cells #[.int .i64 now] 3) = w0 at HB0 HP0 HN0 HZ0 HH0 HNX ⊢
  have c3 : w0.cell? ⟨w.heap.size + 1, 0, none⟩ = some (.int .i64 now) := by rw [cell_of_row _ _ _ _ _ _ HN0.out]; rfl
  have c2 : w0.cell? ⟨w.heap.size, 0, none⟩ = some (.pointer (some ⟨g, 0, none⟩)) := by rw [cell_of_row _ _ _ _ _ _ HP0.out]; rfl
  have hle' : xa0 ≤ now := hle
  clear hle
  have c2' : (w0.alloc (.cells #[.slice none 0 0] 60)).cell? ⟨w.heap.size, 0, none⟩ = some (.pointer (some ⟨g, 0, none⟩)) := by rw [cell_of_row _ _ _ _ _ _ ((Below.heap_alloc w0 _ _ (by have := HZ0.out; omega)).trans HP0.out)]; rfl
  gi_wp2_with fail
  refine ⟨trivial, ?_⟩
  refine (callsIn_wide.2 (tall_anyI _ _)).mono ?_
  rintro e w2 ⟨rfl, rfl⟩
  have hb5 : Below w0.heap.size w0 ((w0.alloc (.cells #[.slice none 0 0] 60)).alloc (.cells #[.pointer (some ⟨g, 0, none⟩)] 72)) := ((Below.refl _ _).alloc (Nat.le_refl _) _).alloc (by simp) _
  have hk5 := heap_alloc2_old w0 (.cells #[.slice none 0 0] 60) (.cells #[.pointer (some ⟨g, 0, none⟩)] 72)
  have hx5 := heap_alloc2_new w0 (.cells #[.slice none 0 0] 60) (.cells #[.pointer (some ⟨g, 0, none⟩)] 72)
  have hz5 : ((w0.alloc (.cells #[.slice none 0 0] 60)).alloc (.cells #[.pointer (some ⟨g, 0, none⟩)] 72)).heap.size = w.heap.size + 4 := by simp; have := HZ0.out; omega
  have hzz : (w0.alloc (.cells #[.slice none 0 0] 60)).heap.size = w.heap.size + 3 := by simp; have := HZ0.out; omega
  have HB5 := Lib.hid hb5
  have HK5 := Lib.hid hk5
  have HX5 := Lib.hid hx5
  have HZ5 := Lib.hid hz5
  have HZZ := Lib.hid hzz
  clear hb5 hk5 hx5 hz5 hzz c2 c2' c3
  gi_wp2_with fail
  rw [HZ0.out]
  generalize (w0.alloc (.cells #[.slice none 0 0] 60)).alloc (.cells #[.pointer (some ⟨g, 0, none⟩)] 72) = W5 at HB5 HK5 HX5 HZ5 ⊢
  have hbox := HX5.out
  have hk5 := HK5.out
  rw [HZ0.out] at hbox hk5
  have h5 := HH0.out.below HB5.out
  have hb5 := HB0.out.trans (HB5.out.mono HB0.out.size)
  have hst := tall_stopsI 7 (by omega) (w.heap.size + 2 + 1) base g s L T (.slice a L.length c) u W5 hbox h5 (by omega)
  have hI : TakII w base g s now L T (.slice a L.length c) u [] W5 :=
    ⟨⟨u, .slice none 0 0, ⟨(HB5.out.block _ (by have := HZ0.out; omega)).trans HP0.out, (HB5.out.block _ (by have := HZ0.out; omega)).trans HN0.out, hk5⟩, h5, ⟨rfl, .inl ⟨rfl, rfl⟩⟩, .rfl' _ _, TchT.below_ hb5, by have := HZ5.out; omega⟩, by simp⟩
  refine wpIn_rangeFunc_ownG rfl (by omega) (gf := 84) (lb := #[.pointer (some ⟨w.heap.size + 2 + 1, 0, none⟩)]) rfl trivial (enters_of Try.func84 (by kernel_rfl) rfl)
    hst kpt_t (fun W l o o' _ ho hc _ => kpt_put ho hc) (Below.refl _ _) (fun _ => rfl)
    (TakII w base g s now L T (.slice a L.length c) u) (TakXI w base g s now L T (.slice a L.length c) u) (takI_ownI _ _ _ _ _ _ _ _ _ _ (by have := HZ5.out; omega)) (fun cd => takX_ownI _ _ _ _ _ _ _ _ _ _ (by have := HZ5.out; omega) cd) hI
    (fun x => { tmps := #[.pointer (some ⟨g, 0, none⟩), .int .i64 now, .pointer (some ⟨w.heap.size, 0, none⟩), .pointer (some ⟨w.heap.size + 1, 0, none⟩), .slice none 0 0, .int .i64 xa0, .bool true, .pointer (some ⟨w.heap.size + 2, 0, none⟩), .int .i64 x.1, .int .i64 x.2, .tuple #[.int .i64 xa0, .bool true], .pointer (some ⟨g, 0, none⟩), .tuple #[.int .i64 xa0, .bool true], .int .i64 xa0, .bool true, .bool true, .bool false, .bool false, .int .i64 xa0, .int .i64 now, .bool (decide (now < xa0)), .bool (decide (now < xa0)), .pointer (some ⟨g, 0, none⟩), .func (Fn.func 84) #[] #[.pointer (some ⟨w.heap.size + 2 + 1, 0, none⟩)], .int .i64 x.1, .int .i64 x.2, undef, undef, undef, undef, undef, undef, undef, undef, undef, undef, undef, undef, undef, undef, undef, undef, undef, undef, undef, undef, undef, undef, undef, undef], defers := [] }) ?assign ?body ?done ?stop
  case assign =>
    intro lp x W K hK
    dsimp only [encTI]
    gi_wp2
    exact hK
  case body =>
    rintro lp pre ⟨xk, xa⟩ W hI hpN
    have HI := Lib.hid hI
    obtain ⟨⟨u1, kv, hb, ht, hk, hx, hc, hz⟩, hl⟩ := hI
    have c2 : W.cell? ⟨w.heap.size, 0, none⟩ = some (.pointer (some ⟨g, 0, none⟩)) := by rw [cell_of_row _ _ _ _ _ _ hb.p]; rfl
    have c3 : W.cell? ⟨w.heap.size + 1, 0, none⟩ = some (.int .i64 now) := by rw [cell_of_row _ _ _ _ _ _ hb.n]; rfl
    have hpl : pre.length ≤ 1000000 := by omega
    by_cases e : xa ≤ now
    · obtain ⟨hr1, hl1⟩ := cuts_okI pre T HRS.out
      have hct := cutA W base s (cutsI pre T) u1 xk ht.sh (by omega) hr1
      obtain ⟨d0, d1⟩ := ht.cells
      obtain ⟨ka, kc, rfl⟩ := own_slice hk
      have hw6 : ∀ W6, Tch W W6 s u1 → ∀ k, w.heap.size ≤ k → k < w.heap.size + 3 → W6.heap[k]? = W.heap[k]? := fun W6 h6 k h1 h2 => h6.block k (by omega) (by omega) (by
        rcases (show k = w.heap.size ∨ k = w.heap.size + 1 ∨ k = w.heap.size + 2 by omega) with rfl | rfl | rfl
        · exact own_ne ht.sh.row hb.p (by decide)
        · exact own_ne ht.sh.row hb.n (by decide)
        · exact own_ne ht.sh.row hb.k (by decide))
      have HCT := Lib.hid hct
      have HW6 := Lib.hid hw6
      have HB := Lib.hid hb
      have HT1 := Lib.hid ht
      have HKV := Lib.hid hk
      have HX1 := Lib.hid hx
      have HC1 := Lib.hid hc
      have HZ1 := Lib.hid hz
      have HLL := Lib.hid hl
      have HLN : Hid ((pre ++ [(xk, xa)]).length = pre.length + 1) := Lib.hid (by simp)
      have HMP : Hid ((pre ++ [(xk, xa)]).map (fun x : Int × Int => (.int .i64 x.1 : Value)) = pre.map (fun x : Int × Int => (.int .i64 x.1 : Value)) ++ [(.int .i64 xk : Value)]) := Lib.hid (by simp)
      have HE := Lib.hid e
      clear hct hw6 hb ht hk hx hc hz hl hr1 hl1 hI hst
      gi_wp2_with fail
      refine ⟨trivial, ?_⟩
      refine (CallsIn.inRound lp (callsIn_wide.2 HCT.out)).mono ?_
      rintro e W6 ⟨rfl, ⟨u6, hs6, ho6⟩, ht6⟩
      have hx6 : Nx W u1 u6 := ho6
      have H6 := Lib.hid (HT1.out.table ht6 hs6)
      have hq6 := HW6.out W6 ht6
      have hb6 := HB.out.kpt hq6
      have hk6 := kpt_own (kpt_tch HT1.out.sh.box HT1.out.sh.row ht6 (by decide) (by decide)) HKV.out
      have c2 : W6.cell? ⟨w.heap.size, 0, none⟩ = some (.pointer (some ⟨g, 0, none⟩)) := by rw [cell_of_row _ _ _ _ _ _ hb6.p]; rfl
      have c7 : W6.cell? ⟨w.heap.size + 2, 0, none⟩ = some (.slice ka pre.length kc) := by rw [cell_of_row _ _ _ _ _ _ hb6.k]; rfl
      have HKF := Lib.hid (fun (B : Nat) => keepsF_tch (B := B) HT1.out.sh.box HT1.out.sh.row ht6)
      have HKT := Lib.hid (kpt_tch (td := 98) HT1.out.sh.box HT1.out.sh.row ht6 (by decide) (by decide))
      have HX6 := Lib.hid (HX1.out.trans hx6 HC1.out.size)
      have HC6 := Lib.hid (HC1.out.trans (TchT.tch (g := g) (v := .slice a L.length c) ht6) (.rfl' _ _) HX1.out)
      have HB6 := Lib.hid hb6
      have HK6 := Lib.hid hk6
      have HZ6 : Hid (w.heap.size + 3 ≤ W6.heap.size) := Lib.hid (Nat.le_trans HZ1.out ht6.size)
      clear hs6 ho6 ht6 hx6 hq6 hb6 hk6 d0 d1 c3
      gi_wp2_with (gi_at_builtin; refine wpListIn_one rfl (.tmp 35) (.tmp 37) rfl Try.underlying60 infoI rfl (by decide) rfl HK6.out rfl rfl hpl HZ6.out ?_; intro v7 w7 hown7 hgr7; obtain ⟨a7, k7, rfl⟩ := own_slice hown7; have hkb7 : ∀ k, k < w.heap.size + 3 → w7.heap[k]? = W6.heap[k]? := (fun k hk => (hgr7.block k (by have := HZ6.out; simp; omega) (fun e => by have := (HK6.out.lt _ e.symm).1; omega)).trans (Below.heap_alloc W6 _ _ (by have := HZ6.out; omega))); have hbt7 := HB6.out.kpt (fun k _ h2 => hkb7 k h2); have c77 : w7.cell? ⟨w.heap.size + 2, 0, none⟩ = some (.slice ka pre.length kc) := (by rw [cell_of_row _ _ _ _ _ _ hbt7.k]; rfl); have f77 : w7.frozen? ⟨w.heap.size + 2, 0, none⟩ = false := frozen_of_row _ _ _ _ _ hbt7.k)
      have hka : Below W6.heap.size W6 (W6.alloc (.cells #[.int .i64 xk] 3)) := (Below.refl _ _).alloc (Nat.le_refl _) _
      have hka6 := own_below HK6.out hka
      have ht7 := ((H6.out.below hka).kpt (kpt_grown hka6 hgr7 (by decide)) (kpt_grown hka6 hgr7 (by decide)) (kpt_grown hka6 hgr7 (by decide)) (kpt_grown hka6 hgr7 (by decide))).kpt (kpt_set hbt7.k (by decide) 0 (.slice a7 (pre.length + 1) k7)) (kpt_set hbt7.k (by decide) 0 (.slice a7 (pre.length + 1) k7)) (kpt_set hbt7.k (by decide) 0 (.slice a7 (pre.length + 1) k7)) (kpt_set hbt7.k (by decide) 0 (.slice a7 (pre.length + 1) k7))
      refine ⟨kf_t (kf_t (kf_t (HKF.out _) (kf_below hka)) (keepsF_grown hka6 hgr7)) ((KeepsOthers.setCell _ _ _).from _), kpt_t (kpt_t (kpt_t HKT.out (kpt_below hka)) (kpt_grown hka6 hgr7 (by decide))) (kpt_set hbt7.k (by decide) 0 (.slice a7 (pre.length + 1) k7)), ⟨⟨u6, (.slice a7 (pre.length + 1) k7), hbt7.set (.slice a7 (pre.length + 1) k7), ?_, ?_, HX6.out, ?_, ?_⟩, ?_⟩⟩
      · rw [cuts_snocI]; exact ht7
      · rw [HLN.out, HMP.out]; exact hown7.kept (grown_set w7 (w.heap.size + 2) 0 (.slice a7 (pre.length + 1) k7)) (.inr (fun e => by have := (hown7.lt _ e).1; omega))
      · have hc6 := HC6.out
        exact ⟨hgr7.os.trans hc6.os, hgr7.tape.trans hc6.tape, hgr7.output.trans hc6.output, by simp; exact Nat.le_trans hc6.size (Nat.le_trans hka.size hgr7.size), fun k hk h1 h2 h3 h4 => (Below.heap_setCell _ _ _ _ (show k ≠ w.heap.size + 2 by omega)).trans ((hkb7 k (by omega)).trans (hc6.block k hk h1 h2 h3 h4))⟩
      · simp; exact Nat.le_trans HZ6.out (Nat.le_trans hka.size hgr7.size)
      · intro y hy
        rcases List.mem_append.1 hy with h | h
        · exact HLL.out y h
        · cases List.mem_singleton.1 h; exact HE.out
    · have hgt : now < xa := by omega
      have HG := Lib.hid hgt
      clear hb ht hk hx hc hz hl hI hst e
      gi_wp2_with fail
      exact ⟨KeepsFrom.refl _ _, rfl, pre, (xk, xa), rfl, HG.out, HI.out⟩
  case stop =>
    rintro D cc pre W hD hSp ⟨rfl, pre', x, rfl, hgx, hI⟩ hK
    obtain ⟨m, rfl⟩ : ∃ m, pre'.length = m := ⟨_, rfl⟩
    have hpre : pre' = L.take pre'.length := List.prefix_iff_eq_take.1 ((List.prefix_append _ _).trans hSp)
    have hxm : L[pre'.length]? = some x := by
      obtain ⟨t, ht⟩ := hSp
      rw [← ht]; simp
    have hm0 : 0 < pre'.length := by
      rcases Nat.eq_zero_or_pos pre'.length with h | h
      · rw [h, HL0.out] at hxm; cases hxm; exact absurd hgx (by have := HLE.out; simp at this ⊢; omega)
      · exact h
    have hm : pre'.length ≤ L.length := Nat.le_of_lt (List.getElem?_eq_some_iff.1 hxm).1
    have hgt : ∀ y, L[pre'.length]? = some y → now < y.2 := fun y hy => by rw [hxm] at hy; cases hy; exact hgx
    obtain ⟨⟨u1, kv, hb, ht, hk, hx, hc, hz⟩, hl⟩ := hI
    generalize pre'.length = m at *
    subst hpre
    clear hSp hxm hgx hst
    have HFIN := Lib.hid (fun (x w6 : World) (v6 : Value) h1 h2 h3 h4 => tak_cutI (x := x) (w6 := w6) (v6 := v6) (D := D) ht hk hx hc hm hl hgt h1 h2 h3 h4 (by have := HZ5.out; omega) hK)
    obtain ⟨ka, kc, rfl⟩ := own_slice hk
    have hnl : (L.drop m).length + m = L.length := by rw [List.length_drop]; omega
    have hdl := fun (x : World) (hx : Below W.heap.size W x) => delete_headT x base (L.drop m).length m (.slice a L.length c) (fl eI eI L) (by rw [hnl]; exact (ht.below hx).row) hm0 (by omega) (fl_one eI eI (fun _ => rfl) (fun _ => rfl) L)
    rw [fl_drop] at hdl
    have HDL := Lib.hid hdl
    have hs := fun (x : World) (hx : Below W.heap.size W x) => show x.cell? ⟨g, 1, none⟩ = some (.slice a L.length c) ∧ x.cell? ⟨w.heap.size, 0, none⟩ = some (.pointer (some ⟨g, 0, none⟩)) ∧ x.cell? ⟨w.heap.size + 2, 0, none⟩ = some (.slice ka m kc) from
      ⟨(ht.below hx).cells.2, by rw [cell_of_row _ _ _ _ _ _ ((hx.block _ (by omega)).trans hb.p)]; rfl, by rw [cell_of_row _ _ _ _ _ _ ((hx.block _ (by omega)).trans hb.k)]; rfl⟩
    have HS := Lib.hid hs
    have hsi := fun (y : World) (hg : W.drew.grownBy y (Value.slice a L.length c).ownBlock) => show (y.frozen? ⟨g, 1, none⟩ = false ∧ y.cell? ⟨g, 1, none⟩ = some (.slice a L.length c) ∧ y.cell? ⟨w.heap.size, 0, none⟩ = some (.pointer (some ⟨g, 0, none⟩)) ∧ y.cell? ⟨w.heap.size + 2, 0, none⟩ = some (.slice ka m kc)) from by
      have htd := ht.below (kD _)
      have e1 := (hg.block g htd.lt (fun e => htd.vg e.symm)).trans htd.box
      have e2 : ∀ (k : Nat) (o : Array Value) (t : Nat), W.heap[k]? = some (Obj.cells o t (0, 0)) → 98 ≠ t → y.heap[k]? = some (Obj.cells o t (0, 0)) := fun k o t hk hne => (hg.block k (Array.getElem?_eq_some_iff.1 hk).1 (fun e => own_ne htd.row (show W.drew.heap[k]? = _ from hk) hne e.symm)).trans hk
      exact ⟨frozen_of_row _ _ _ _ _ e1, by rw [cell_of_row _ _ _ _ _ _ e1]; rfl, by rw [cell_of_row _ _ _ _ _ _ (e2 _ _ _ hb.p (by decide))]; rfl, by rw [cell_of_row _ _ _ _ _ _ (e2 _ _ _ hb.k (by decide))]; rfl⟩
    have HSI := Lib.hid hsi
    clear hb ht hk hx hc hl hgt hdl hs hsi hz hK hnl hm hm0
    gi_wp2_with fail
    refine wpIn_wide.2 (wp_nopanic ?_)
    refine wp_region_last (fun w' => w'.cell? ⟨g, 1, none⟩ = some (.slice a L.length c) ∧ w'.cell? ⟨w.heap.size, 0, none⟩ = some (.pointer (some ⟨g, 0, none⟩)) ∧ w'.cell? ⟨w.heap.size + 2, 0, none⟩ = some (.slice ka m kc)) 10 (by kernel_rfl) (HS.out _ (kD _)) (fun hHeld => ?_)
    refine wpAnyL_take (i := 0) (v := ?_) rfl (by kernel_rfl) (by kernel_rfl) (by kernel_rfl) (by kernel_rfl) (by kernel_rfl) (fun _ _ _ h => h) (Or.inl ⟨by rfl, ?_⟩) (by assumption) ?_
    rotate_left
    · intro wq hSw; (try dsimp only at hSw); first | (go_simp; done) | (go_simp; with_reducible rfl) | with_reducible rfl
    try simp only [Act.put, List.setIfInBounds_toArray, List.set_cons_zero, List.set_cons_succ]
    refine wpAnyL_take (i := 1) (v := ?_) rfl (by kernel_rfl) (by kernel_rfl) (by kernel_rfl) (by kernel_rfl) (by kernel_rfl) (fun _ _ _ h => h) (Or.inl ⟨by rfl, ?_⟩) (by assumption) ?_
    rotate_left
    · intro wq hSw; (try dsimp only at hSw); first | (go_simp; done) | (go_simp; with_reducible rfl) | with_reducible rfl
    try simp only [Act.put, List.setIfInBounds_toArray, List.set_cons_zero, List.set_cons_succ]
    refine wpAnyL_take (i := 2) (v := ?_) rfl (by kernel_rfl) (by kernel_rfl) (by kernel_rfl) (by kernel_rfl) (by kernel_rfl) (fun _ _ _ h => h) (Or.inl ⟨by rfl, ?_⟩) (by assumption) ?_
    rotate_left
    · intro wq hSw; (try dsimp only at hSw); first | (go_simp; done) | (go_simp; with_reducible rfl) | with_reducible rfl
    try simp only [Act.put, List.setIfInBounds_toArray, List.set_cons_zero, List.set_cons_succ]
    refine wpAnyL_take (i := 3) (v := ?_) rfl (by kernel_rfl) (by kernel_rfl) (by kernel_rfl) (by kernel_rfl) (by kernel_rfl) (fun _ _ _ h => h) (Or.inl ⟨by rfl, ?_⟩) (by assumption) ?_
    rotate_left
    · intro wq hSw; (try dsimp only at hSw); first | (go_simp; done) | (go_simp; with_reducible rfl) | with_reducible rfl
    try simp only [Act.put, List.setIfInBounds_toArray, List.set_cons_zero, List.set_cons_succ]
    refine wpAnyL_take (i := 4) (v := ?_) rfl (by kernel_rfl) (by kernel_rfl) (by kernel_rfl) (by kernel_rfl) (by kernel_rfl) (fun _ _ _ h => h) (Or.inl ⟨by rfl, ?_⟩) (by assumption) ?_
    rotate_left
    · intro wq hSw; (try dsimp only at hSw); first | (go_simp; done) | (go_simp; with_reducible rfl) | with_reducible rfl
    try simp only [Act.put, List.setIfInBounds_toArray, List.set_cons_zero, List.set_cons_succ]
    refine wpAnyL_take (i := 5) (v := ?_) rfl (by kernel_rfl) (by kernel_rfl) (by kernel_rfl) (by kernel_rfl) (by kernel_rfl) (fun _ _ _ h => h) (Or.inl ⟨by rfl, ?_⟩) (by assumption) ?_
    rotate_left
    · intro wq hSw; (try dsimp only at hSw); first | (go_simp; done) | (go_simp; with_reducible rfl) | with_reducible rfl
    try simp only [Act.put, List.setIfInBounds_toArray, List.set_cons_zero, List.set_cons_succ]
    refine wpAnyL_take (i := 6) (v := ?_) rfl (by kernel_rfl) (by kernel_rfl) (by kernel_rfl) (by kernel_rfl) (by kernel_rfl) (fun _ _ _ h => h) (Or.inl ⟨by rfl, ?_⟩) (by assumption) ?_
    rotate_left
    · intro wq hSw; (try dsimp only at hSw); first | (go_simp; done) | (go_simp; with_reducible rfl) | with_reducible rfl
    try simp only [Act.put, List.setIfInBounds_toArray, List.set_cons_zero, List.set_cons_succ]
    refine wpAnyL_ready (rs := [7]) (by kernel_rfl) (by simp) ?_
    refine (AllReadyL.cons rfl (fun K hK => ?_) AllReadyL.nil)
    go_simp
    go_wp2_with (go_at_call 50; refine (HDL.out _ (kD _)).mono ?_; rintro e w6 ⟨v6, rfl, hown6, hgr6, hob6⟩; obtain ⟨a6, c6, rfl⟩ := own_slice hown6; have hq6 := HSI.out w6 hgr6; have hk6 := hq6.2; have hf6 := hq6.1; have HT6 := HFIN.out _ _ _ (kD _) hown6 hgr6 hob6)
    refine hK.out _ _ ?_ (fun hHeld => ?_)
    · (try dsimp only); exact hk6
    clear hK K
    refine wpAnyL_take (i := 8) (v := ?_) rfl (by kernel_rfl) (by kernel_rfl) (by kernel_rfl) (by kernel_rfl) (by kernel_rfl) (fun _ _ _ h => h) (Or.inl ⟨by rfl, ?_⟩) (by assumption) ?_
    rotate_left
    · intro wq hSw; (try dsimp only at hSw); first | (go_simp; done) | (go_simp; with_reducible rfl) | with_reducible rfl
    try simp only [Act.put, List.setIfInBounds_toArray, List.set_cons_zero, List.set_cons_succ]
    refine wpAnyL_take (i := 9) (v := ?_) rfl (by kernel_rfl) (by kernel_rfl) (by kernel_rfl) (by kernel_rfl) (by kernel_rfl) (fun _ _ _ h => h) (Or.inl ⟨by rfl, ?_⟩) (by assumption) ?_
    rotate_left
    · intro wq hSw; (try dsimp only at hSw); first | (go_simp; done) | (go_simp; with_reducible rfl) | with_reducible rfl
    try simp only [Act.put, List.setIfInBounds_toArray, List.set_cons_zero, List.set_cons_succ]
    refine wpAnyL_ready (rs := [10]) (by kernel_rfl) (by simp) ?_
    refine AllReadyL.last rfl (fun K hK => ?_)
    go_simp
    refine hK.out _ _ ?_
    clear hK K
    refine wpAnyL_done (by kernel_rfl) ?_ _
    clear hHeld
    rw [List.length_drop] at HT6
    have HT6 := Lib.hid HT6
    clear hown6 hgr6 hob6
    gi_wp2_with fail
    refine ⟨by simp, .inl ⟨_, _, rfl, run_takeDeferred HT6.out.1, ?_⟩⟩
    exact ⟨.slice ka m kc, res_eq rfl (by rfl), HT6.out.2⟩
  case done =>
    rintro D ys W hD hys hI hK
    rw [hys] at hI
    clear hys ys hst
    have htk : L.take L.length = L := List.take_length
    have hpre : ∃ m, m = L.length := ⟨_, rfl⟩
    obtain ⟨m, hmm⟩ := hpre
    have htk : L.take m = L := by rw [hmm]; exact htk
    obtain ⟨⟨u1, kv, hb, ht, hk, hx, hc, hz⟩, hl⟩ := hI
    rw [← hmm] at hk
    have hm0 : 0 < m := by have := (List.getElem?_eq_some_iff.1 HL0.out).1; omega
    have hm : m ≤ L.length := by omega
    have hgt : ∀ y, L[m]? = some y → now < y.2 := fun y hy => by rw [List.getElem?_eq_none (by omega)] at hy; cases hy
    rw [show cutsI L T = cutsI (L.take m) T by rw [htk]] at ht
    rw [show (L.map fun x => (.int .i64 x.1 : Value)) = ((L.take m).map fun x => (.int .i64 x.1 : Value)) by rw [htk]] at hk
    rw [← htk] at hl
    clear htk hmm
    have HFIN := Lib.hid (fun (x w6 : World) (v6 : Value) h1 h2 h3 h4 => tak_cutI (x := x) (w6 := w6) (v6 := v6) (D := D) ht hk hx hc hm hl hgt h1 h2 h3 h4 (by have := HZ5.out; omega) hK)
    obtain ⟨ka, kc, rfl⟩ := own_slice hk
    have hnl : (L.drop m).length + m = L.length := by rw [List.length_drop]; omega
    have hdl := fun (x : World) (hx : Below W.heap.size W x) => delete_headT x base (L.drop m).length m (.slice a L.length c) (fl eI eI L) (by rw [hnl]; exact (ht.below hx).row) hm0 (by omega) (fl_one eI eI (fun _ => rfl) (fun _ => rfl) L)
    rw [fl_drop] at hdl
    have HDL := Lib.hid hdl
    have hs := fun (x : World) (hx : Below W.heap.size W x) => show x.cell? ⟨g, 1, none⟩ = some (.slice a L.length c) ∧ x.cell? ⟨w.heap.size, 0, none⟩ = some (.pointer (some ⟨g, 0, none⟩)) ∧ x.cell? ⟨w.heap.size + 2, 0, none⟩ = some (.slice ka m kc) from
      ⟨(ht.below hx).cells.2, by rw [cell_of_row _ _ _ _ _ _ ((hx.block _ (by omega)).trans hb.p)]; rfl, by rw [cell_of_row _ _ _ _ _ _ ((hx.block _ (by omega)).trans hb.k)]; rfl⟩
    have HS := Lib.hid hs
    have hsi := fun (y : World) (hg : W.drew.grownBy y (Value.slice a L.length c).ownBlock) => show (y.frozen? ⟨g, 1, none⟩ = false ∧ y.cell? ⟨g, 1, none⟩ = some (.slice a L.length c) ∧ y.cell? ⟨w.heap.size, 0, none⟩ = some (.pointer (some ⟨g, 0, none⟩)) ∧ y.cell? ⟨w.heap.size + 2, 0, none⟩ = some (.slice ka m kc)) from by
      have htd := ht.below (kD _)
      have e1 := (hg.block g htd.lt (fun e => htd.vg e.symm)).trans htd.box
      have e2 : ∀ (k : Nat) (o : Array Value) (t : Nat), W.heap[k]? = some (Obj.cells o t (0, 0)) → 98 ≠ t → y.heap[k]? = some (Obj.cells o t (0, 0)) := fun k o t hk hne => (hg.block k (Array.getElem?_eq_some_iff.1 hk).1 (fun e => own_ne htd.row (show W.drew.heap[k]? = _ from hk) hne e.symm)).trans hk
      exact ⟨frozen_of_row _ _ _ _ _ e1, by rw [cell_of_row _ _ _ _ _ _ e1]; rfl, by rw [cell_of_row _ _ _ _ _ _ (e2 _ _ _ hb.p (by decide))]; rfl, by rw [cell_of_row _ _ _ _ _ _ (e2 _ _ _ hb.k (by decide))]; rfl⟩
    have HSI := Lib.hid hsi
    clear hb ht hk hx hc hl hgt hdl hs hsi hz hK hnl hm hm0
    gi_wp2_with fail
    refine wpIn_wide.2 (wp_nopanic ?_)
    refine wp_region_last (fun w' => w'.cell? ⟨g, 1, none⟩ = some (.slice a L.length c) ∧ w'.cell? ⟨w.heap.size, 0, none⟩ = some (.pointer (some ⟨g, 0, none⟩)) ∧ w'.cell? ⟨w.heap.size + 2, 0, none⟩ = some (.slice ka m kc)) 10 (by kernel_rfl) (HS.out _ (kD _)) (fun hHeld => ?_)
    refine wpAnyL_take (i := 0) (v := ?_) rfl (by kernel_rfl) (by kernel_rfl) (by kernel_rfl) (by kernel_rfl) (by kernel_rfl) (fun _ _ _ h => h) (Or.inl ⟨by rfl, ?_⟩) (by assumption) ?_
    rotate_left
    · intro wq hSw; (try dsimp only at hSw); first | (go_simp; done) | (go_simp; with_reducible rfl) | with_reducible rfl
    try simp only [Act.put, List.setIfInBounds_toArray, List.set_cons_zero, List.set_cons_succ]
    refine wpAnyL_take (i := 1) (v := ?_) rfl (by kernel_rfl) (by kernel_rfl) (by kernel_rfl) (by kernel_rfl) (by kernel_rfl) (fun _ _ _ h => h) (Or.inl ⟨by rfl, ?_⟩) (by assumption) ?_
    rotate_left
    · intro wq hSw; (try dsimp only at hSw); first | (go_simp; done) | (go_simp; with_reducible rfl) | with_reducible rfl
    try simp only [Act.put, List.setIfInBounds_toArray, List.set_cons_zero, List.set_cons_succ]
    refine wpAnyL_take (i := 2) (v := ?_) rfl (by kernel_rfl) (by kernel_rfl) (by kernel_rfl) (by kernel_rfl) (by kernel_rfl) (fun _ _ _ h => h) (Or.inl ⟨by rfl, ?_⟩) (by assumption) ?_
    rotate_left
    · intro wq hSw; (try dsimp only at hSw); first | (go_simp; done) | (go_simp; with_reducible rfl) | with_reducible rfl
    try simp only [Act.put, List.setIfInBounds_toArray, List.set_cons_zero, List.set_cons_succ]
    refine wpAnyL_take (i := 3) (v := ?_) rfl (by kernel_rfl) (by kernel_rfl) (by kernel_rfl) (by kernel_rfl) (by kernel_rfl) (fun _ _ _ h => h) (Or.inl ⟨by rfl, ?_⟩) (by assumption) ?_
    rotate_left
    · intro wq hSw; (try dsimp only at hSw); first | (go_simp; done) | (go_simp; with_reducible rfl) | with_reducible rfl
    try simp only [Act.put, List.setIfInBounds_toArray, List.set_cons_zero, List.set_cons_succ]
    refine wpAnyL_take (i := 4) (v := ?_) rfl (by kernel_rfl) (by kernel_rfl) (by kernel_rfl) (by kernel_rfl) (by kernel_rfl) (fun _ _ _ h => h) (Or.inl ⟨by rfl, ?_⟩) (by assumption) ?_
    rotate_left
    · intro wq hSw; (try dsimp only at hSw); first | (go_simp; done) | (go_simp; with_reducible rfl) | with_reducible rfl
    try simp only [Act.put, List.setIfInBounds_toArray, List.set_cons_zero, List.set_cons_succ]
    refine wpAnyL_take (i := 5) (v := ?_) rfl (by kernel_rfl) (by kernel_rfl) (by kernel_rfl) (by kernel_rfl) (by kernel_rfl) (fun _ _ _ h => h) (Or.inl ⟨by rfl, ?_⟩) (by assumption) ?_
    rotate_left
    · intro wq hSw; (try dsimp only at hSw); first | (go_simp; done) | (go_simp; with_reducible rfl) | with_reducible rfl
    try simp only [Act.put, List.setIfInBounds_toArray, List.set_cons_zero, List.set_cons_succ]
    refine wpAnyL_take (i := 6) (v := ?_) rfl (by kernel_rfl) (by kernel_rfl) (by kernel_rfl) (by kernel_rfl) (by kernel_rfl) (fun _ _ _ h => h) (Or.inl ⟨by rfl, ?_⟩) (by assumption) ?_
    rotate_left
    · intro wq hSw; (try dsimp only at hSw); first | (go_simp; done) | (go_simp; with_reducible rfl) | with_reducible rfl
    try simp only [Act.put, List.setIfInBounds_toArray, List.set_cons_zero, List.set_cons_succ]
    refine wpAnyL_ready (rs := [7]) (by kernel_rfl) (by simp) ?_
    refine (AllReadyL.cons rfl (fun K hK => ?_) AllReadyL.nil)
    go_simp
    go_wp2_with (go_at_call 50; refine (HDL.out _ (kD _)).mono ?_; rintro e w6 ⟨v6, rfl, hown6, hgr6, hob6⟩; obtain ⟨a6, c6, rfl⟩ := own_slice hown6; have hq6 := HSI.out w6 hgr6; have hk6 := hq6.2; have hf6 := hq6.1; have HT6 := HFIN.out _ _ _ (kD _) hown6 hgr6 hob6)
    refine hK.out _ _ ?_ (fun hHeld => ?_)
    · (try dsimp only); exact hk6
    clear hK K
    refine wpAnyL_take (i := 8) (v := ?_) rfl (by kernel_rfl) (by kernel_rfl) (by kernel_rfl) (by kernel_rfl) (by kernel_rfl) (fun _ _ _ h => h) (Or.inl ⟨by rfl, ?_⟩) (by assumption) ?_
    rotate_left
    · intro wq hSw; (try dsimp only at hSw); first | (go_simp; done) | (go_simp; with_reducible rfl) | with_reducible rfl
    try simp only [Act.put, List.setIfInBounds_toArray, List.set_cons_zero, List.set_cons_succ]
    refine wpAnyL_take (i := 9) (v := ?_) rfl (by kernel_rfl) (by kernel_rfl) (by kernel_rfl) (by kernel_rfl) (by kernel_rfl) (fun _ _ _ h => h) (Or.inl ⟨by rfl, ?_⟩) (by assumption) ?_
    rotate_left
    · intro wq hSw; (try dsimp only at hSw); first | (go_simp; done) | (go_simp; with_reducible rfl) | with_reducible rfl
    try simp only [Act.put, List.setIfInBounds_toArray, List.set_cons_zero, List.set_cons_succ]
    refine wpAnyL_ready (rs := [10]) (by kernel_rfl) (by simp) ?_
    refine AllReadyL.last rfl (fun K hK => ?_)
    go_simp
    refine hK.out _ _ ?_
    clear hK K
    refine wpAnyL_done (by kernel_rfl) ?_ _
    clear hHeld
    rw [List.length_drop] at HT6
    have HT6 := Lib.hid HT6
    clear hown6 hgr6 hob6
    gi_wp2_with fail
    refine ⟨by simp, .inl ⟨_, _, rfl, run_takeDeferred HT6.out.1, ?_⟩⟩
    exact ⟨.slice ka m kc, res_eq rfl (by rfl), HT6.out.2⟩

end Go.Proofs.Ytiidgcgamcgipaa