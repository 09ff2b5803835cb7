/- What Drop does with a queue. -/
import Derived.Test.YtnhlmpomgbpoiaaQk
namespace Go.Proofs.Ytnhlmpomgbpoiaa
open Go.RowKit Go.Shelf
attribute [local go_sem] Oper.semAt_some

/-- append onto a row of the call's own, inside a fence. -/
theorem wpListIn_append_q {F : Fence} {n' : Nat} {P : Program} {w : World} {ops : Array Oper} {rest : List Oper} {o : Oper} {a : Act} {Q : Exit → Act → World → Prop} (hgd : o.guard = none) (s x : Operand) (t : TypeId)
    (ho : o.op = .call { callee := .builtin .append, args := #[s, x], argTypes := #[t, t] }) {e : TypeId} {z : Value} {bytes : Nat} (ht : P.underlying t = some (.slice e))
    (hinfo : (P.info? e).map (fun i => (i.zero, i.size, i.bytes)) = some (some z, 1, bytes)) (hzs : z.cells.size = 1)
    {base n c : Nat} {A : Option Addr} {vs : List Value} (hs : a.eval s = .slice A n c) (h : Qs w base e A n c vs) (hb : base ≤ w.heap.size) {X : Option Addr} {m cx : Nat} {news : List Value} (hx : a.eval x = .slice X m cx) (hX : Src w X m news)
    (b1 : n + m ≤ maxLen) (b2 : (n + m) * bytes ≤ 140737488355328)
    (hK : ∀ A' c' w', Qs w' base e A' (n + m) c' (vs ++ news) → w.grownBy w' (blk A) → (blk A' = blk A ∨ ∃ b, blk A' = some b ∧ w.heap.size ≤ b) → wpListIn F n' P ops Q rest (a.put o.dst (.slice A' (n + m) c')) w') :
    wpListIn F n' P ops Q (o :: rest) a w := by
  obtain ⟨i0, hi, hz0, hz1, hz2⟩ := info_parts hinfo
  refine wpListIn_plain hgd fun K hK' => ?_
  obtain ⟨A', c', w', hrun, r1, r2, r3⟩ := run_append_q (P := P) w t o.type e i0 z bytes ht hi hz0 hz1 hz2 hzs h hb cx hX b1 b2
  unfold Oper.wpIn
  refine ⟨?_, ?_⟩
  · simp [Oper.about, ho, resolve, Target.leads, Sem.run_pure]
  · rw [Oper.semAt_plain F _ _ (by rw [ho]; intro c hc'; cases hc')]
    simp [execOp, ho, resolve, invoke, builtin, hs, hx, hrun, Result.andThen]
    exact hK' _ _ (hK A' c' w' r1 r2 r3)

theorem plays1_any (w : World) (x k : Int) (bb : Nat) (hc : w.cell? ⟨bb, 0, none⟩ = some (.int .i64 k)) (hk : 1 ≤ k ∧ k ≤ 4) :
    Calls Try.prog 14 #[.int .i64 x, .pointer (some ⟨bb, 0, none⟩)] w fun e w' => e = .returned (.bool (x.tmod k == 0)) ∧ w = w' := by
  have h0 : (k == 0) = false := by simp; omega
  obtain ⟨hk0, hk1⟩ := hk
  go_enter Try.func14, Try.ntmps14
  go_wp2_with fail
  go_ret
  exact ⟨rfl, rfl⟩

/-- What stays of a list. -/
def dropL (k : Int) (l : List Int) : List Int := l.filter fun x => !(x.tmod k == 0)
theorem dropL_len (k : Int) (l : List Int) : (dropL k l).length ≤ l.length := List.length_filter_le _ _
theorem en_snd (l : List Int) : (en l).map (·.2) = l := by
  apply List.ext_getElem
  · simp [en]
  · intro i h1 h2
    simp [en, List.getD, List.getElem?_eq_getElem h2]
/-- The block that the row of a box lies in. -/
def tbs (g : Nat) (W : World) : Option Nat := match W.cell? ⟨g, 0, none⟩ with
  | some (.slice A _ _) => blk A
  | _ => none
theorem tbs_same {w w' : World} {g : Nat} (h : w'.heap[g]? = w.heap[g]?) : tbs g w' = tbs g w := by
  unfold tbs
  rw [World.cell?_of_block (a := ⟨g, 0, none⟩) h]
theorem tbs_box {w : World} {g t n c : Nat} {A : Option Addr} (h : w.heap[g]? = some (.cells #[.slice A n c] t (0, 0))) : tbs g w = blk A := by
  unfold tbs
  rw [cell_of_row _ _ _ _ _ _ h]; rfl
theorem Qs.own' {w w' : World} {base e n c Bn : Nat} {A : Option Addr} {vs : List Value} {row : Option Nat} (h : Qs w base e A n c vs) (hg : w.grownBy w' row) (hr : ∀ r, row = some r → Bn ≤ r ∧ ∃ o : Obj, w.heap[r]? = some o ∧ o.isCells = false) : Qs w' base e A n c vs := by
  refine h.keep fun b hb => ?_
  rcases h.lies with ⟨rfl, _⟩ | ⟨b', off, cur, rfl, h1, h2, _⟩
  · cases hb
  · cases hb
    refine hg.block b' (Array.getElem?_eq_some_iff.1 h2).1 (fun e => ?_)
    obtain ⟨_, o, ho, hc⟩ := hr _ e.symm
    rw [h2] at ho; cases ho; cases hc

theorem keeps_grown {w w' : World} {base e n c Bn : Nat} {A : Option Addr} {vs : List Value} (h : Qs w base e A n c vs) (hg : w.grownBy w' (blk A)) : KeepsFrom Bn w w' := by
  refine ⟨hg.size, fun k o _ hk hc => (hg.block k (Array.getElem?_eq_some_iff.1 hk).1 (fun e => ?_)).trans hk⟩
  rcases h.lies with ⟨rfl, _⟩ | ⟨b', off, cur, rfl, h1, h2, _⟩
  · cases e
  · cases e; rw [h2] at hk; cases hk; cases hc
theorem kb {Bn : Nat} {w w' : World} (hb : Below w.heap.size w w') : KeepsFrom Bn w w' := ⟨hb.size, fun k _ _ hk _ => (hb.block k (Array.getElem?_eq_some_iff.1 hk).1).trans hk⟩
/-- Between two things that are asked for. -/
def DpI (w : World) (k : Int) (bb : Nat) (pre : List Elt) (W : World) : Prop :=
  (W.heap[w.heap.size]? = some (.cells #[.func (Fn.func 14) #[] #[.pointer (some ⟨bb, 0, none⟩)]] 39 (0, 0)) ∧
    ∃ A c, W.heap[w.heap.size + 1]? = some (.cells #[.slice A (dropL k (pre.map (·.2))).length c] 25 (0, 0)) ∧ Qs W (w.heap.size + 1 + 1 + 1) 3 A (dropL k (pre.map (·.2))).length c (ints (dropL k (pre.map (·.2))))) ∧ Below w.heap.size w W ∧ w.heap.size + 1 + 1 + 1 ≤ W.heap.size
theorem DpI_own (w : World) (k : Int) (bb Bn : Nat) (h1 : w.heap.size + 1 < Bn) : OwnFrom Bn (DpI w k bb) := fun s W W' row h hg hr =>
  ⟨⟨heap_own (β := List Elt) w.heap.size Bn (fun _ => _) (by omega) s W W' row h.1.1 hg hr, (by
    obtain ⟨A, c, h2, h3⟩ := h.1.2
    exact ⟨A, c, heap_own (β := List Elt) (w.heap.size + 1) Bn (fun s => .cells #[.slice A (dropL k (s.map (·.2))).length c] 25 (0, 0)) h1 s W W' row h2 hg hr, h3.own' hg hr⟩)⟩, ownFrom_below (β := List Elt) (Nat.le_refl _) (by omega) s W W' row h.2.1 hg hr, Nat.le_trans h.2.2 hg.size⟩

set_option maxRecDepth 100000 in
set_option maxHeartbeats 4000000 in
theorem drop_in (w : World) (g B N c bb : Nat) (lim lost k : Int) (xs : List Int) (A : Option Addr) (hq : Que w B g lim (ints xs) lost A N c) (hbb : w.heap[bb]? = some (.cells #[.int .i64 k] 3 (0, 0))) (hk : 1 ≤ k ∧ k ≤ 4) (hB : B ≤ w.heap.size) :
    CallsIn Fence.wide 8 Try.prog 13 #[.pointer (some ⟨g, 0, none⟩), .func (Fn.func 14) #[] #[.pointer (some ⟨bb, 0, none⟩)]] w fun e w' => ∃ A' c',
      e = .returned (.int .i64 (N - (dropL k xs).length)) ∧ Que w' B g lim (ints (dropL k xs)) lost A' (dropL k xs).length c' ∧ Tch w w' g none ∧ (∀ b, blk A' = some b → w.heap.size ≤ b) := by
  have hbw3 : Below w.heap.size w (((w.alloc (.cells #[.func (Fn.func 14) #[] #[.pointer (some ⟨bb, 0, none⟩)]] 39)).alloc (.cells #[.slice none 0 0] 25)).alloc (.cells #[.pointer (some ⟨g, 0, none⟩)] 23)) := (((Below.refl _ _).alloc (Nat.le_refl _) _).alloc (by simp) _).alloc (by simp; omega) _
  have a0 := Boxed.new w 39 (.func (Fn.func 14) #[] #[.pointer (some ⟨bb, 0, none⟩)])
  have a1 := Boxed.new (w.alloc (.cells #[.func (Fn.func 14) #[] #[.pointer (some ⟨bb, 0, none⟩)]] 39)) 25 (.slice none 0 0)
  have a2 := Boxed.new ((w.alloc (.cells #[.func (Fn.func 14) #[] #[.pointer (some ⟨bb, 0, none⟩)]] 39)).alloc (.cells #[.slice none 0 0] 25)) 23 (.pointer (some ⟨g, 0, none⟩))
  simp only [World.size_alloc] at a1 a2
  have H0 := Lib.hid ((a0.alloc (.cells #[.slice none 0 0] 25)).alloc (.cells #[.pointer (some ⟨g, 0, none⟩)] 23))
  have H1 := Lib.hid (a1.alloc (.cells #[.pointer (some ⟨g, 0, none⟩)] 23))
  have H2 := Lib.hid a2
  have HB3 := Lib.hid hbw3
  have HS3 : Hid ((((w.alloc (.cells #[.func (Fn.func 14) #[] #[.pointer (some ⟨bb, 0, none⟩)]] 39)).alloc (.cells #[.slice none 0 0] 25)).alloc (.cells #[.pointer (some ⟨g, 0, none⟩)] 23)).heap.size = w.heap.size + 1 + 1 + 1) := by show _ = _; simp
  have HQ := Lib.hid hq
  have HBB := Lib.hid hbb
  have hbl := (Array.getElem?_eq_some_iff.1 hbb).1
  have hgl := hq.lt
  have hN : N ≤ 65536 := by have := hq.fits; have := hq.lims; omega
  have hxl : xs.length = N := by have := hq.row.len; simpa using this
  have HXL := Lib.hid hxl
  clear hbw3 a0 a1 a2 hq hbb hxl
  refine callsIn_of_wp_marks Try.func13 rfl trivial ?_ rfl
  simp only [Try.ntmps13, List.size_toArray, List.length_cons, List.length_nil, Nat.reduceAdd, Nat.reduceSub, Array.replicate_succ, Array.replicate_zero, List.push_toArray, List.append_toArray, List.nil_append, List.cons_append]
  gi_wp2_with fail
  refine ⟨trivial, ?_⟩
  refine (callsIn_wide.2 (all_any _ _)).mono ?_
  rintro e w4 ⟨rfl, rfl⟩
  gi_wp2_with fail
  generalize ((w.alloc (.cells #[.func (Fn.func 14) #[] #[.pointer (some ⟨bb, 0, none⟩)]] 39)).alloc (.cells #[.slice none 0 0] 25)).alloc (.cells #[.pointer (some ⟨g, 0, none⟩)] 23) = W3 at H0 H1 H2 HB3 HS3 ⊢
  have hq3 := HQ.out.below HB3.out
  have hst := all_stops 7 (by omega) (w.heap.size + 1 + 1) g B N c lim lost xs A (· = w.heap.size + 1) (tbs (w.heap.size + 1)) W3 H2.out hq3 (fun k hk => by rw [HS3.out]; omega)
    (fun W W' hW hW' => tbs_same (hW'.block _ (Nat.lt_of_lt_of_le (by rw [HS3.out]; omega) hW.size))) (fun W b hW hb => by
      rw [tbs_box ((hW.block (w.heap.size + 1) (by rw [HS3.out]; omega)).trans H1.out)] at hb
      cases hb)
  have hI : DpI w k bb [] W3 := ⟨⟨H0.out, none, 0, H1.out, Qs.nil_ _ _ _⟩, HB3.out, by rw [HS3.out]; omega⟩
  refine wpIn_rangeFunc_ownG rfl (by omega) (gf := 31) (lb := #[.pointer (some ⟨w.heap.size + 1 + 1, 0, none⟩)]) rfl trivial (enters_of Try.func31 (by kernel_rfl) rfl)
    hst kq_t (kq_b fun W l o' hl => tbs_same (World.putObj_heap_other (by have := HS3.out; omega))) (Below.refl _ _) (fun _ => rfl)
    (DpI w k bb) (fun _ _ _ => False) (DpI_own w k bb _ (by rw [HS3.out]; omega)) (fun _ => ownFrom_pure _ _) hI
    (fun x => { tmps := #[.pointer (some ⟨g, 0, none⟩), .func (Fn.func 14) #[] #[.pointer (some ⟨bb, 0, none⟩)], undef, .pointer (some ⟨w.heap.size, 0, none⟩), .int .i64 0, .pointer (some ⟨w.heap.size + 1, 0, none⟩), undef, .int .i64 x.2, undef, .pointer (some ⟨g, 0, none⟩), .bool false, .pointer (some ⟨g, 0, none⟩), .func (Fn.func 31) #[] #[.pointer (some ⟨w.heap.size + 1 + 1, 0, none⟩)], .int .i64 (x.1 : Nat), .int .i64 x.2, undef, undef, undef, undef, undef, undef, undef, undef, undef, undef, undef, undef, undef, undef, undef, undef, undef, undef, undef, undef, undef], defers := [] }) ?assign ?body ?done ?stop
  case assign =>
    intro lp x W K hK
    gi_wp2
    exact hK
  case body =>
    rintro lp pre ⟨i, v⟩ W ⟨⟨hf, As, cs, hs, hrow⟩, hbw, hw3⟩ hpN
    have c3 : W.cell? ⟨w.heap.size, 0, none⟩ = some (.func (Fn.func 14) #[] #[.pointer (some ⟨bb, 0, none⟩)]) := by rw [cell_of_row _ _ _ _ _ _ hf]; rfl
    have c5 : W.cell? ⟨w.heap.size + 1, 0, none⟩ = some (.slice As (dropL k (pre.map (·.2))).length cs) := by rw [cell_of_row _ _ _ _ _ _ hs]; rfl
    have f5 : W.frozen? ⟨w.heap.size + 1, 0, none⟩ = false := frozen_of_row _ _ _ _ _ hs
    have hcb : W.cell? ⟨bb, 0, none⟩ = some (.int .i64 k) := by rw [cell_of_row _ _ _ _ _ _ ((hbw.block bb hbl).trans HBB.out)]; rfl
    have hp1 := plays1_any W v k bb hcb hk
    have hnext : dropL k ((pre ++ [((i, v) : Elt)]).map (·.2)) = dropL k (pre.map (·.2)) ++ (if (v.tmod k == 0) = true then [] else [v]) := by
      simp only [dropL, List.map_append, List.map_cons, List.map_nil, List.filter_append]
      congr 1
      by_cases h : (v.tmod k == 0) = true
      · simp [h]
      · simp [h]
    have hfl : (dropL k (pre.map (·.2))).length ≤ pre.length := by have := dropL_len k (pre.map (·.2)); simpa using this
    have hrm := hrow.max
    simp only [maxLen] at hrm
    have hWs := (Array.getElem?_eq_some_iff.1 hs).1
    have HNX := Lib.hid hnext
    have HP1 := Lib.hid hp1
    have HF := Lib.hid hf
    have HSS := Lib.hid hs
    have HROW := Lib.hid hrow
    clear hnext hp1 hf hs hrow hcb
    generalize dropL k (pre.map (·.2)) = L at HNX HSS HROW c5 hfl
    by_cases hd : (v.tmod k == 0) = true
    · have HD := Lib.hid hd
      rw [hd] at HP1
      clear hd
      gi_wp2_with (first | (refine ⟨trivial, ?_⟩; gi_at_call 14; refine (CallsIn.inRound lp (callsIn_wide.2 HP1.out)).mono ?_; rintro e w' ⟨rfl, rfl⟩))
      refine ⟨KeepsFrom.refl _ _, kq_refl _, ⟨⟨HF.out, As, cs, ?_, ?_⟩, hbw, hw3⟩⟩
      · rw [HNX.out, if_pos HD.out, List.append_nil]; exact HSS.out
      · rw [HNX.out, if_pos HD.out, List.append_nil]; exact HROW.out
    · have hd' : (v.tmod k == 0) = false := by simpa using hd
      have HD := Lib.hid hd
      rw [hd'] at HP1
      clear hd hd'
      have hal : Below W.heap.size W (W.alloc (.cells #[.int .i64 v] 3)) := (Below.refl _ _).alloc (Nat.le_refl _) _
      have hrow1 := HROW.out.below hal
      have hss1 := (hal.block _ hWs).trans HSS.out
      have hlt1 : w.heap.size + 1 < (W.alloc (.cells #[.int .i64 v] 3)).heap.size := by simp; omega
      have hnb : blk As ≠ some (w.heap.size + 1) := fun e => by have := (HROW.out.lt e).1; omega
      have HAL := Lib.hid hal
      have HROW1 := Lib.hid hrow1
      have HSS1 := Lib.hid hss1
      have HNB := Lib.hid hnb
      clear hal hrow1 hss1 hnb
      gi_wp2_with (first
        | (refine ⟨trivial, ?_⟩; gi_at_call 14; refine (CallsIn.inRound lp (callsIn_wide.2 HP1.out)).mono ?_; rintro e w' ⟨rfl, rfl⟩)
        | (refine wpListIn_append_q rfl (.tmp 19) (.tmp 21) 25 rfl Try.underlying25 info_el rfl rfl HROW1.out (by simp; omega) rfl (Src.lit W 3 [.int .i64 v] (by simp [Value.oneCell']) 1 (Nat.le_refl _)) (by simp only [maxLen]; omega) (by omega) ?_
           intro A6 c6 w6 hq6 hg6 hn6
           have hb6 := (hg6.block _ hlt1 (fun e => HNB.out e.symm)).trans HSS1.out
           have c56 : w6.cell? ⟨w.heap.size + 1, 0, none⟩ = some (.slice As L.length cs) := by (rw [cell_of_row _ _ _ _ _ _ hb6]; rfl)
           have f56 : w6.frozen? ⟨w.heap.size + 1, 0, none⟩ = false := frozen_of_row _ _ _ _ _ hb6
           have HB6 := Lib.hid hb6
           clear hb6))
      have hL : ints (L ++ [v]) = ints L ++ List.take 1 [.int .i64 v] := by simp
      have hLl : (L ++ [v]).length = L.length + 1 := by simp
      have hb7 := one_set HB6.out (.slice A6 (L.length + 1) c6)
      have hq7 : Qs (w6.setCell ⟨w.heap.size + 1, 0, none⟩ (.slice A6 (L.length + 1) c6)) (w.heap.size + 1 + 1 + 1) 3 A6 (L ++ [v]).length c6 (ints (L ++ [v])) := by
        rw [hL, hLl]
        exact hq6.keep fun b hb => heap_other _ _ _ _ (fun e => by have := (hq6.lt hb).1; subst e; simp at this; omega)
      refine ⟨((kb HAL.out).trans (keeps_grown HROW1.out hg6)).trans ((KeepsOthers.setCell _ _ _).from _), ⟨?_, fun j cs' t fr hj hF ht => ?_, ?_⟩, ⟨⟨?_, A6, c6, ?_, ?_⟩, ?_, ?_⟩⟩
      · have := hg6.size; simp at this ⊢; omega
      · have hjl := (Array.getElem?_eq_some_iff.1 hj).1
        rw [tbs_box HSS.out] at ht
        refine (heap_other _ _ _ _ hF).trans ((hg6.block j (by simp; omega) (fun e => ht e.symm)).trans (HAL.out.block j hjl))
      · rw [tbs_box HSS.out, tbs_box hb7]
        exact hn6.imp id fun ⟨b, h1, h2⟩ => ⟨b, h1, by simp at h2; omega⟩
      · exact (heap_other _ _ _ _ (by simp)).trans ((hg6.block _ (by simp; omega) (fun e => by have := (HROW.out.lt e.symm).1; omega)).trans ((HAL.out.block _ (by omega)).trans HF.out))
      · rw [HNX.out, if_neg HD.out, hLl]; exact hb7
      · rw [HNX.out, if_neg HD.out]; exact hq7
      · exact ((hbw.trans (HAL.out.mono hbw.size)).grown hg6 (by simp; omega) (fun b e => by have := (HROW.out.lt e).1; omega)).setCell (p := ⟨w.heap.size + 1, 0, none⟩) (by simp) _
      · have := hg6.size; simp at this ⊢; omega
  case stop =>
    rintro D cc pre W hD hSp hX hK
    exact hX.elim
  case done =>
    rintro D ys W hD rfl ⟨⟨hf, As, cs, hs, hrow⟩, hbw, hw3⟩ hK
    rw [en_snd] at hs hrow
    have hLN : (dropL k xs).length ≤ N := by have := dropL_len k xs; rw [HXL.out] at this; exact this
    generalize hLd : dropL k xs = L at hs hrow hLN
    have HLD := Lib.hid hLd
    clear hLd
    have hQW := HQ.out.below hbw
    have c1 := hQW.cells.2.1
    have f1 := hQW.frozen 1
    have c5 : W.cell? ⟨w.heap.size + 1, 0, none⟩ = some (.slice As L.length cs) := by rw [cell_of_row _ _ _ _ _ _ hs]; rfl
    have hrm := hrow.max
    have hrc := hrow.cap
    have hqm := hQW.row.max
    have hqc := hQW.row.cap
    simp only [maxLen] at hrm hqm
    have HQW := Lib.hid hQW
    have HROW := Lib.hid hrow
    have HK := Lib.hid hK
    clear hQW hrow hK hf hs
    gi_wp2_with fail
    refine wpIn_wide.2 ?_
    go_quiet (fail)
    have hAg : blk As ≠ some g := fun e => by have := (HROW.out.lt e).1; omega
    have hAD : ∀ b, blk As = some b → b ≠ D := fun b hb e => by
      subst e
      rcases HROW.out.lies with ⟨rfl, _⟩ | ⟨b', off, cur, rfl, h1, h2, _⟩
      · cases hb
      · cases hb; have := HK.out; rw [h2] at this; cases this
    have hq1 : Que (W.drewN nq) B g lim (ints xs) lost A N c := HQW.out.keep rfl (fun _ _ => rfl)
    have hr1 : Qs (W.drewN nq) B 3 As L.length cs (ints L) := (HROW.out.less (by omega)).keep (fun _ _ => rfl)
    have hq2 := hq1.put hr1 rfl (by have := HQW.out.fits; omega) hAg
    have hgD : g ≠ D := by have := HS3.out; omega
    have hq3' : Que (((W.drewN nq).setCell ⟨g, 1, none⟩ (.slice As L.length cs)).putObj D (.deferred none)) B g lim (ints L) lost As L.length cs :=
      hq2.keep (World.putObj_heap_other hgD) (fun b hb => World.putObj_heap_other (hAD b hb))
    have hK1 : ((W.drewN nq).setCell ⟨g, 1, none⟩ (.slice As L.length cs)).heap[D]? = some (.deferred (some [])) := (heap_other _ _ _ _ (by simp; omega)).trans HK.out
    have htc : Tch w (((W.drewN nq).setCell ⟨g, 1, none⟩ (.slice As L.length cs)).putObj D (.deferred none)) g none := by
      have h1 := ((Tch.of_below (g := g) (A := none) (below_drewN hbw nq)).set 1 (.slice As L.length cs))
      have hg := grownBy_putObj' ((W.drewN nq).setCell ⟨g, 1, none⟩ (.slice As L.length cs)) D (.deferred none)
      exact ⟨hg.os.trans h1.os, hg.tape.trans h1.tape, hg.output.trans h1.output, Nat.le_trans h1.size hg.size, fun k hk h2 h3 => (World.putObj_heap_other (by have := HS3.out; omega)).trans (h1.block k hk h2 h3)⟩
    have HQ3 := Lib.hid hq3'
    have HK1 := Lib.hid hK1
    have HTC := Lib.hid htc
    clear hq1 hr1 hq2 hq3' hK1 htc
    gi_wp2_with fail
    refine ⟨by simp, .inl ⟨_, _, rfl, run_takeDeferred HK1.out, ?_⟩⟩
    rw [HLD.out]
    exact ⟨_, results_tmp rfl _ _ _, As, cs, rfl, HQ3.out, HTC.out, fun b hb => by have := (HROW.out.lt hb).1; omega⟩
end Go.Proofs.Ytnhlmpomgbpoiaa
