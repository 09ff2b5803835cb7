/- emcy: History. -/
import Derived.Test.YtncnlbokipieaaaEo
import Derived.Test.YtncnlbokipieaaaErv
namespace Go.Proofs.Ytncnlbokipieaaa
open Go.RowKit Go.Shelf
set_option linter.unusedSimpArgs false
set_option linter.unusedVariables false
attribute [local go_sem] Oper.semAt_some

theorem heap_own {β : Type} (k Bn : Nat) (f : β → Obj) (h : k < Bn) : OwnFrom Bn (fun (s : β) W => W.heap[k]? = some (f s)) := fun s W W' row hs hg hr => (hg.block k (Array.getElem?_eq_some_iff.1 hs).1 (fun e => by have := (hr k e.symm).1; omega)).trans hs
theorem one_set {W : World} {k : Nat} {t : TypeId} {u : Value} (h : W.heap[k]? = some (.cells #[u] t (0, 0))) (v : Value) : (W.setCell ⟨k, 0, none⟩ v).heap[k]? = some (.cells #[v] t (0, 0)) := by
  simp [World.setCell, Array.getElem?_modify, h]
theorem heap_other (W : World) (a : Addr) (v : Value) (k : Nat) (h : ¬ k = a.block) : (W.setCell a v).heap[k]? = W.heap[k]? := Below.heap_setCell W a v k h
/-- append onto a row of the call's own, inside a fence. -/
theorem wpListIn_append_q {F : Fence} {n' : Nat} {P : Program} {w : World} {ops : Array Oper} {rest : List Oper} {o : Oper} {a : Act} {Q : Exit → Act → World → Prop} (hgd : o.guard = none) (s x : Operand) (t : TypeId)
    (ho : o.op = .call { callee := .builtin .append, args := #[s, x], argTypes := #[t, t] }) {e : TypeId} {z : Value} {bytes : Nat} (ht : P.underlying t = some (.slice e))
    (hinfo : (P.info? e).map (fun i => (i.zero, i.size, i.bytes)) = some (some z, 1, bytes)) (hzs : z.cells.size = 1)
    {base n c : Nat} {A : Option Addr} {vs : List Value} (hs : a.eval s = .slice A n c) (h : Qs w base e A n c vs) (hb : base ≤ w.heap.size) {X : Option Addr} {m cx : Nat} {news : List Value} (hx : a.eval x = .slice X m cx) (hX : Src w X m news)
    (b1 : n + m ≤ maxLen) (b2 : (n + m) * bytes ≤ 140737488355328)
    (hK : ∀ A' c' w', Qs w' base e A' (n + m) c' (vs ++ news) → w.grownBy w' (blk A) → (blk A' = blk A ∨ ∃ b, blk A' = some b ∧ w.heap.size ≤ b) → wpListIn F n' P ops Q rest (a.put o.dst (.slice A' (n + m) c')) w') :
    wpListIn F n' P ops Q (o :: rest) a w := by
  obtain ⟨i0, hi, hz0, hz1, hz2⟩ := info_parts hinfo
  refine wpListIn_plain hgd fun K hK' => ?_
  obtain ⟨A', c', w', hrun, r1, r2, r3⟩ := run_append_q (P := P) w t o.type e i0 z bytes ht hi hz0 hz1 hz2 hzs h hb cx hX b1 b2
  unfold Oper.wpIn
  refine ⟨?_, ?_⟩
  · simp [Oper.about, ho, resolve, Target.leads, Sem.run_pure]
  · rw [Oper.semAt_plain F _ _ (by rw [ho]; intro c hc'; cases hc')]
    simp [execOp, ho, resolve, invoke, builtin, hs, hx, hrun, Result.andThen]
    exact hK' _ _ (hK A' c' w' r1 r2 r3)

theorem en_snd (l : List Int) : (en l).map (·.2) = l := by
  apply List.ext_getElem
  · simp [en]
  · intro i h1 h2
    simp [en, List.getD, List.getElem?_eq_getElem h2]
/-- The block that the row of a box lies in. -/
def tbs (g : Nat) (W : World) : Option Nat := match W.cell? ⟨g, 0, none⟩ with
  | some (.slice A _ _) => blk A
  | _ => none
theorem tbs_same {w w' : World} {g : Nat} (h : w'.heap[g]? = w.heap[g]?) : tbs g w' = tbs g w := by
  unfold tbs
  rw [World.cell?_of_block (a := ⟨g, 0, none⟩) h]
theorem tbs_box {w : World} {g t n c : Nat} {A : Option Addr} (h : w.heap[g]? = some (.cells #[.slice A n c] t (0, 0))) : tbs g w = blk A := by
  unfold tbs
  rw [cell_of_row _ _ _ _ _ _ h]; rfl
theorem Qs.own' {w w' : World} {base e n c Bn : Nat} {A : Option Addr} {vs : List Value} {row : Option Nat} (h : Qs w base e A n c vs) (hg : w.grownBy w' row) (hr : ∀ r, row = some r → Bn ≤ r ∧ ∃ o : Obj, w.heap[r]? = some o ∧ o.isCells = false) : Qs w' base e A n c vs := by
  refine h.keep fun b hb => ?_
  rcases h.lies with ⟨rfl, _⟩ | ⟨b', off, cur, rfl, h1, h2, _⟩
  · cases hb
  · cases hb
    refine hg.block b' (Array.getElem?_eq_some_iff.1 h2).1 (fun e => ?_)
    obtain ⟨_, o, ho, hc⟩ := hr _ e.symm
    rw [h2] at ho; cases ho; cases hc

theorem keeps_grown {w w' : World} {base e n c Bn : Nat} {A : Option Addr} {vs : List Value} (h : Qs w base e A n c vs) (hg : w.grownBy w' (blk A)) : KeepsFrom Bn w w' := by
  refine ⟨hg.size, fun k o _ hk hc => (hg.block k (Array.getElem?_eq_some_iff.1 hk).1 (fun e => ?_)).trans hk⟩
  rcases h.lies with ⟨rfl, _⟩ | ⟨b', off, cur, rfl, h1, h2, _⟩
  · cases e
  · cases e; rw [h2] at hk; cases hk; cases hc
theorem kb {Bn : Nat} {w w' : World} (hb : Below w.heap.size w w') : KeepsFrom Bn w w' := ⟨hb.size, fun k _ _ hk _ => (hb.block k (Array.getElem?_eq_some_iff.1 hk).1).trans hk⟩
/-- Between two things that are asked for. -/
def HsI (w : World) (pre : List Elt) (W : World) : Prop :=
  (∃ A c, W.heap[w.heap.size]? = some (.cells #[.slice A (pre.map (·.2)).length c] 44 (0, 0)) ∧ Qs W (w.heap.size + 1 + 1) 3 A (pre.map (·.2)).length c (ints (pre.map (·.2)))) ∧ Below w.heap.size w W ∧ w.heap.size + 1 + 1 ≤ W.heap.size
theorem HsI_own (w : World) (Bn : Nat) (h1 : w.heap.size < Bn) : OwnFrom Bn (HsI w) := fun s W W' row h hg hr =>
  ⟨(by
    obtain ⟨A, c, h2, h3⟩ := h.1
    exact ⟨A, c, heap_own (β := List Elt) w.heap.size Bn (fun s => .cells #[.slice A (s.map (·.2)).length c] 44 (0, 0)) h1 s W W' row h2 hg hr, h3.own' hg hr⟩), ownFrom_below (β := List Elt) (Nat.le_refl _) (by omega) s W W' row h.2.1 hg hr, Nat.le_trans h.2.2 hg.size⟩
set_option maxRecDepth 100000 in
set_option maxHeartbeats 4000000 in
theorem hist_in (T : Nat → Prop) (w0 w : World) (g B q N c : Nat) (D : DataW Unit) (A : Option Addr) (lost nd td : Int) (F : List (Int × Int)) (hs : List Int) (h : LgI T w0 w g B q N D A c lost nd F hs td) : Calls Try.prog 17 #[.pointer (some ⟨g, 0, none⟩)] w fun e w' => ∃ A' c', e = .returned (.slice A' hs.length c') ∧ Qs w' (w.heap.size + 1 + 1) 3 A' hs.length c' (ints hs.reverse) ∧ Below w.heap.size w w' := by
  refine (callsIn_wide (n := 8)).1 ?_
  have hba : Below w.heap.size w (w.alloc (.cells #[.slice none 0 0] 44)) := (Below.refl _ _).alloc (Nat.le_refl _) _
  have hbw3 : Below w.heap.size w ((w.alloc (.cells #[.slice none 0 0] 44)).alloc (.cells #[.pointer (some ⟨q, 0, none⟩)] 77)) := hba.alloc (by simp) _
  have a1 := Boxed.new w 44 (.slice none 0 0)
  have a2 := Boxed.new (w.alloc (.cells #[.slice none 0 0] 44)) 77 (.pointer (some ⟨q, 0, none⟩))
  simp only [World.size_alloc] at a1 a2
  have H1 := Lib.hid (a1.alloc (.cells #[.pointer (some ⟨q, 0, none⟩)] 77))
  have H2 := Lib.hid a2
  have HB3 := Lib.hid hbw3
  have HS3 : Hid (((w.alloc (.cells #[.slice none 0 0] 44)).alloc (.cells #[.pointer (some ⟨q, 0, none⟩)] 77)).heap.size = w.heap.size + 1 + 1) := by show _ = _; simp
  have HQ := Lib.hid h.que
  have hfit := h.que.fits
  have hN : hs.length ≤ 8 := by omega
  have hql := h.que.lt
  obtain ⟨c0, c1, c2, c3, c4, c5, c6, c7, c8, c9, c10, c11⟩ := (h.below hba).cells
  clear h hba hbw3 a1 a2 hfit
  refine callsIn_of_wp_marks Try.func17 rfl trivial ?_ rfl
  simp only [Try.ntmps17, List.size_toArray, List.length_cons, List.length_nil, Nat.reduceAdd, Nat.reduceSub, Array.replicate_succ, Array.replicate_zero, List.push_toArray, List.append_toArray, List.nil_append, List.cons_append]
  gi_wp2_with fail
  refine ⟨trivial, ?_⟩
  refine (callsIn_wide.2 (qall_any _ _)).mono ?_
  rintro e w4 ⟨rfl, rfl⟩
  clear c0 c1 c2 c3 c4 c5 c6 c7 c8 c9 c10 c11
  gi_wp2_with fail
  generalize ((w.alloc (.cells #[.slice none 0 0] 44)).alloc (.cells #[.pointer (some ⟨q, 0, none⟩)] 77)) = W3 at H1 H2 HB3 HS3 ⊢
  have hq3 := HQ.out.below HB3.out
  have hst := qall_stops 7 (by omega) (w.heap.size + 1) q w0.heap.size hs.length c 8 lost hs A (· = w.heap.size) (tbs w.heap.size) W3 H2.out hq3 (fun k hk => by rw [HS3.out]; omega)
    (fun W W' hW hW' => tbs_same (hW'.block _ (Nat.lt_of_lt_of_le (by rw [HS3.out]; omega) hW.size))) (fun W b hW hb => by
      rw [tbs_box ((hW.block w.heap.size (by rw [HS3.out]; omega)).trans H1.out)] at hb
      cases hb)
  have hI : HsI w [] W3 := ⟨⟨none, 0, H1.out, Qs.nil_ _ _ _⟩, HB3.out, by rw [HS3.out]; omega⟩
  refine wpIn_rangeFunc_ownG (F := Fence.wide) (n := 8) (w := W3) rfl (by decide) (gf := 54) (lb := #[.pointer (some ⟨w.heap.size + 1, 0, none⟩)]) rfl trivial (enters_of Try.func54 (by kernel_rfl) rfl)
    hst kq_t (kq_b fun W l o' hl => tbs_same (World.putObj_heap_other (by have := HS3.out; omega))) (Below.refl _ _) (fun _ => rfl)
    (HsI w) (fun _ _ _ => False) (HsI_own w _ (by rw [HS3.out]; omega)) (fun _ => ownFrom_pure _ _) hI
    (fun x => { tmps := #[.pointer (some ⟨g, 0, none⟩), undef, .slice none 0 0, .pointer (some ⟨w.heap.size, 0, none⟩), undef, .int .i64 x.2, .pointer (some ⟨g, 0, none⟩), .bool false, .pointer (some ⟨g, 0, none⟩), .pointer (some ⟨g, 0, none⟩), .pointer (some ⟨g, 10, none⟩), .pointer (some ⟨q, 0, none⟩), .func (Fn.func 54) #[] #[.pointer (some ⟨w.heap.size + 1, 0, none⟩)], .int .i64 (x.1 : Nat), .int .i64 x.2, undef, undef, undef, undef, undef, undef, undef], defers := [] }) ?assign ?body ?done ?stop
  case assign =>
    intro lp x W K hK
    gi_wp2
    exact hK
  case body =>
    rintro lp pre ⟨i, v⟩ W ⟨⟨As, cs, hs', hrow⟩, hbw, hw3⟩ hpN
    have c5 : W.cell? ⟨w.heap.size, 0, none⟩ = some (.slice As (pre.map (·.2)).length cs) := by rw [cell_of_row _ _ _ _ _ _ hs']; rfl
    have f5 : W.frozen? ⟨w.heap.size, 0, none⟩ = false := frozen_of_row _ _ _ _ _ hs'
    have hnext : ((pre ++ [((i, v) : Elt)]).map (·.2)) = (pre.map (·.2)) ++ [v] := by simp
    have hfl : (pre.map (·.2)).length ≤ 8 := by simp; omega
    have hrm := hrow.max
    simp only [maxLen] at hrm
    have hWs := (Array.getElem?_eq_some_iff.1 hs').1
    have HNX := Lib.hid hnext
    have HSS := Lib.hid hs'
    have HROW := Lib.hid hrow
    clear hnext hs' hrow
    generalize (pre.map (·.2)) = L at HNX HSS HROW c5 hfl
    have hal : Below W.heap.size W (W.alloc (.cells #[.int .i64 v] 3)) := (Below.refl _ _).alloc (Nat.le_refl _) _
    have hrow1 := HROW.out.below hal
    have hss1 := (hal.block _ hWs).trans HSS.out
    have hlt1 : w.heap.size < (W.alloc (.cells #[.int .i64 v] 3)).heap.size := by simp; omega
    have hnb : blk As ≠ some w.heap.size := fun e => by have := (HROW.out.lt e).1; omega
    have HAL := Lib.hid hal
    have HROW1 := Lib.hid hrow1
    have HSS1 := Lib.hid hss1
    have HNB := Lib.hid hnb
    clear hal hrow1 hss1 hnb
    gi_wp2_with (refine wpListIn_append_q rfl (.tmp 15) (.tmp 17) 44 rfl Try.underlying44 info_el rfl rfl HROW1.out (by simp; omega) rfl (Src.lit W 3 [.int .i64 v] (by simp [Value.oneCell']) 1 (Nat.le_refl _)) (by simp only [maxLen]; omega) (by omega) ?_; intro A6 c6 w6 hq6 hg6 hn6; have hb6 := (hg6.block _ hlt1 (fun e => HNB.out e.symm)).trans HSS1.out; have c56 : w6.cell? ⟨w.heap.size, 0, none⟩ = some (.slice As L.length cs) := (by rw [cell_of_row _ _ _ _ _ _ hb6]; rfl); have f56 : w6.frozen? ⟨w.heap.size, 0, none⟩ = false := frozen_of_row _ _ _ _ _ hb6; have HB6 := Lib.hid hb6; clear hb6)
    have hL : ints (L ++ [v]) = ints L ++ List.take 1 [.int .i64 v] := by simp
    have hLl : (L ++ [v]).length = L.length + 1 := by simp
    have hb7 := one_set HB6.out (.slice A6 (L.length + 1) c6)
    have hq7 : Qs (w6.setCell ⟨w.heap.size, 0, none⟩ (.slice A6 (L.length + 1) c6)) (w.heap.size + 1 + 1) 3 A6 (L ++ [v]).length c6 (ints (L ++ [v])) := by
      rw [hL, hLl]
      exact hq6.keep fun b hb => heap_other _ _ _ _ (fun e => by have := (hq6.lt hb).1; subst e; simp at this; omega)
    refine ⟨((kb HAL.out).trans (keeps_grown HROW1.out hg6)).trans ((KeepsOthers.setCell _ _ _).from _), ⟨?_, fun j cs' t fr hj hF ht => ?_, ?_⟩, ⟨⟨A6, c6, ?_, ?_⟩, ?_, ?_⟩⟩
    · have := hg6.size; simp at this ⊢; omega
    · have hjl := (Array.getElem?_eq_some_iff.1 hj).1
      rw [tbs_box HSS.out] at ht
      refine (heap_other _ _ _ _ hF).trans ((hg6.block j (by simp; omega) (fun e => ht e.symm)).trans (HAL.out.block j hjl))
    · rw [tbs_box HSS.out, tbs_box hb7]
      exact hn6.imp id fun ⟨b, h1, h2⟩ => ⟨b, h1, by simp at h2; omega⟩
    · rw [HNX.out, hLl]; exact hb7
    · rw [HNX.out]; exact hq7
    · exact ((hbw.trans (HAL.out.mono hbw.size)).grown hg6 (by simp; omega) (fun b e => by have := (HROW.out.lt e).1; omega)).setCell (p := ⟨w.heap.size, 0, none⟩) (by simp) _
    · have := hg6.size; simp at this ⊢; omega
  case stop =>
    rintro D cc pre W hD hSp hX hK
    exact hX.elim
  case done =>
    rintro D ys W hD rfl ⟨⟨As, cs, hs', hrow⟩, hbw, hw3⟩ hK
    rw [en_snd] at hs' hrow
    have c5 : W.cell? ⟨w.heap.size, 0, none⟩ = some (.slice As hs.length cs) := by rw [cell_of_row _ _ _ _ _ _ hs']; rfl
    have hrm := hrow.max
    have hrc := hrow.cap
    simp only [maxLen] at hrm
    have HROW := Lib.hid hrow
    have HSS := Lib.hid hs'
    have HK := Lib.hid hK
    have hWs := (Array.getElem?_eq_some_iff.1 hs').1
    clear hrow hK hs'
    gi_wp2_with fail
    refine ⟨trivial, ?_⟩
    refine (callsIn_wide.2 (rev_any W _ _ _ _ _ HROW.out)).mono ?_
    rintro e W2 ⟨rfl, hr2, hg2⟩
    have hAD : blk As ≠ some D := fun e => by
      rcases HROW.out.lies with ⟨rfl, _⟩ | ⟨b', off, cur, rfl, h1, h2, _⟩
      · cases e
      · cases e; have := HK.out; rw [h2] at this; cases this
    have hss2 := (hg2.block _ hWs (fun e => by have := (HROW.out.lt e.symm).1; omega)).trans HSS.out
    have c52 : W2.cell? ⟨w.heap.size, 0, none⟩ = some (.slice As hs.length cs) := by rw [cell_of_row _ _ _ _ _ _ hss2]; rfl
    have hK2 : W2.heap[D]? = some (.deferred (some [])) := (hg2.block D (Array.getElem?_eq_some_iff.1 HK.out).1 (fun e => hAD e.symm)).trans HK.out
    have hbw2 := hbw.grown hg2 (by omega) (fun b e => by have := (HROW.out.lt e).1; omega)
    have HR2 := Lib.hid hr2
    have HK2 := Lib.hid hK2
    have HB2 := Lib.hid hbw2
    have HAD := Lib.hid hAD
    clear hr2 hg2 hss2 hK2 hbw2 hAD
    gi_wp2_with fail
    refine ⟨by simp, .inl ⟨_, _, rfl, run_takeDeferred HK2.out, ?_⟩⟩
    have hg := grownBy_putObj' W2 D (.deferred none)
    exact ⟨_, results_tmp rfl _ _ _, As, cs, rfl, HR2.out.keep (fun b hb => World.putObj_heap_other (fun e => HAD.out (by rw [hb, e]))), HB2.out.grown hg (by have := HB2.out.size; omega) (fun k e => by cases e; have := HS3.out; have := HB3.out.size; omega)⟩
end Go.Proofs.Ytncnlbokipieaaa
