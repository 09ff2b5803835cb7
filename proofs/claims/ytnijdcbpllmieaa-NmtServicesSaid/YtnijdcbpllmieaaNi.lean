/- The walk of NmtServices. -/
import Derived.RangeFuncBox
import Derived.Test.YtnijdcbpllmieaaNh
namespace Go.Proofs.Ytnijdcbpllmieaa
open Go.RowKit Go.Shelf
attribute [local go_sem] Oper.semAt_some
set_option linter.unusedSimpArgs false
set_option linter.unusedVariables false

theorem run_equalIn_func_nil {P : Program} (w : World) (d : Nat) (t : TypeId) {x1 x2 : Array TypeId} {x3 : Bool} (h : P.underlying t = some (.func x1 x2 x3)) (f : Fn) (cap lb : Array Value) : (Op.equalIn (d + 1) t (.func f cap lb) .nilFunc).run P w = .ok false w := by
  simp [Op.equalIn, run_underlying h]
theorem run_eql_func_nil {P : Program} (w : World) (t : TypeId) {x1 x2 : Array TypeId} {x3 : Bool} (h : P.underlying t = some (.func x1 x2 x3)) (f : Fn) (cap lb : Array Value) : (binOp .eql t (.func f cap lb) .nilFunc).run P w = .ok (.bool false) w := by
  simp only [binOp]
  simp [Op.equal, Op.maxDepth, run_equalIn_func_nil w 9999 t h f cap lb]
theorem eql_modes (w : World) : (binOp .eql 51 (.func (Fn.func 28) #[] #[]) .nilFunc).run Try.prog w = .ok (.bool false) w := run_eql_func_nil w _ Try.underlying51 _ _ _
def lastM (l : List Int) : Int := l.getLastD (-1)
theorem lastM_snoc (l : List Int) (x : Int) : lastM (l ++ [x]) = x := by simp [lastM]
theorem lastM_lt {pre : List Int} {x : Int} (h : pre ++ [x] <+: mds) : lastM pre < x := by
  obtain ⟨t, ht⟩ := h
  rcases pre with _ | ⟨a, _ | ⟨b, _ | ⟨c, _ | ⟨d, r⟩⟩⟩⟩ <;> simp [mds] at ht <;> simp [lastM] <;> omega
/-- The three boxes. -/
structure SvI (w : World) (n last : Int) (W : World) : Prop where
  r : W.heap[w.heap.size]? = some (.cells #[.bool false] 4 (0, 0))
  n : W.heap[w.heap.size + 1]? = some (.cells #[.int .i64 n] 3 (0, 0))
  l : W.heap[w.heap.size + 1 + 1]? = some (.cells #[.int .i64 last] 3 (0, 0))
  bel : Below w.heap.size w W
def SvL (w : World) (pre : List Int) (W : World) : Prop := SvI w pre.length (lastM pre) W
theorem SvI.below {w W W' : World} {n last : Int} (h : SvI w n last W) (hb : Below W.heap.size W W') : SvI w n last W' :=
  ⟨(hb.block _ (Array.getElem?_eq_some_iff.1 h.r).1).trans h.r, (hb.block _ (Array.getElem?_eq_some_iff.1 h.n).1).trans h.n, (hb.block _ (Array.getElem?_eq_some_iff.1 h.l).1).trans h.l, h.bel.trans (hb.mono h.bel.size)⟩
theorem one_set {W : World} {k : Nat} {t : TypeId} {u : Value} (h : W.heap[k]? = some (.cells #[u] t (0, 0))) (v : Value) : (W.setCell ⟨k, 0, none⟩ v).heap[k]? = some (.cells #[v] t (0, 0)) := by
  simp [World.setCell, Array.getElem?_modify, h]
theorem heap_other (W : World) (a : Addr) (v : Value) (k : Nat) (h : ¬ k = a.block) : (W.setCell a v).heap[k]? = W.heap[k]? := Below.heap_setCell W a v k h
theorem SvL_own (w : World) (Bn : Nat) (h : w.heap.size + 1 + 1 < Bn) : OwnFrom Bn (SvL w) := fun s X Y row hk hg hr =>
  ⟨own_heap (β := Unit) _ Bn _ (by omega) () X Y row hk.r hg hr, own_heap (β := Unit) _ Bn _ (by omega) () X Y row hk.n hg hr, own_heap (β := Unit) _ Bn _ (by omega) () X Y row hk.l hg hr, hk.bel.grown hg hk.bel.size (fun k e => by have := (hr k e).1; omega)⟩
theorem may_not {m s : Int} (h : maySv m s = true) : ¬ m = 0 ∧ (s = 5 → m = 5) := by
  unfold maySv at h
  (repeat' split at h) <;> simp at h <;> omega
set_option maxRecDepth 100000 in
set_option maxHeartbeats 4000000 in
theorem services_no (m s : Int) (w : World) (hq : maySv m s = false) :
    CallsIn Fence.wide 9 Try.prog 5 #[.int .i64 m, .int .i64 s] w fun e w' => e = .returned (.bool true) ∧ Below w.heap.size w w' := by
  have hsv0 : SvI w 0 (-1) (((w.alloc (.cells #[.bool false] 4)).alloc (.cells #[.int .i64 0] 3)).alloc (.cells #[.int .i64 (-1)] 3)) := ⟨(heap_alloc_old _ _ _ (by simp; omega)).trans (heap_alloc2_old w _ _), by
    have := heap_alloc2_old (w.alloc (.cells #[.bool false] 4)) (.cells #[.int .i64 0] 3) (.cells #[.int .i64 (-1)] 3)
    simpa using this, by
    have := heap_alloc2_new (w.alloc (.cells #[.bool false] 4)) (.cells #[.int .i64 0] 3) (.cells #[.int .i64 (-1)] 3)
    simpa using this, (((Below.refl _ _).alloc (Nat.le_refl _) _).alloc (by simp) _).alloc (by simp; omega) _⟩
  have HSV := Lib.hid hsv0
  have HM := Lib.hid (mayS_any m s)
  have HD := Lib.hid (does_any m s)
  rw [hq] at HM HD
  clear hq
  have HEQ := eql_modes
  clear hsv0
  refine callsIn_of_wp_marks Try.func5 rfl trivial ?_ rfl
  simp only [Try.ntmps5, List.size_toArray, List.length_cons, List.length_nil, Nat.reduceAdd, Nat.reduceSub, Array.replicate_succ, Array.replicate_zero, List.push_toArray, List.append_toArray, List.nil_append, List.cons_append]
  refine wpIn_wide.2 ?_
  go_wp2_with fail
  refine (HM.out _).mono ?_
  rintro e w1 ⟨rfl, rfl⟩
  go_upto_region 4 with (go_at_call 20; refine (HD.out _).mono ?_; rintro e w1 ⟨rfl, rfl⟩)
  go_wp2_with (go_at_call 21; refine (modes_any _).mono ?_; rintro e w1 ⟨rfl, rfl⟩)
  have hz : (((w.alloc (.cells #[.bool false] 4)).alloc (.cells #[.int .i64 0] 3)).alloc (.cells #[.int .i64 (-1)] 3)).heap.size = w.heap.size + 1 + 1 + 1 := by simp
  have HZ := Lib.hid hz
  clear hz
  generalize (((w.alloc (.cells #[.bool false] 4)).alloc (.cells #[.int .i64 0] 3)).alloc (.cells #[.int .i64 (-1)] 3)) = w1 at *
  have hst := modes_L 8 (by omega) w1
  have hI : SvL w [] w1 := HSV.out
  have hzz : w.heap.size + 1 + 1 < w1.heap.size := by rw [HZ.out]; omega
  clear HM HD HSV
  refine (wpIn_wide (n := 9)).1 ?_
  refine range_L (by omega) (gf := 28) (lb := #[]) rfl (enters_of Try.func28 (by kernel_rfl) rfl) hst (fun _ _ => trivial) (fun _ _ _ _ _ _ _ _ => trivial) (Below.refl _ _) (fun _ => rfl)
    (SvL w) (fun _ pre _ => ¬ pre <+: mds) (SvL_own w _ hzz) (fun _ => ownFrom_pure _ _) hI ?a1 ?assign ?body ?done ?stop
  case assign =>
    intro lp y X K hK
    gi_wp2
    exact hK
  case body =>
    rintro lp pre x X hsv hlen
    have c6 : X.cell? ⟨w.heap.size + 1, 0, none⟩ = some (.int .i64 pre.length) := by rw [cell_of_row _ _ _ _ _ _ hsv.n]; rfl
    have c7 : X.cell? ⟨w.heap.size + 1 + 1, 0, none⟩ = some (.int .i64 (lastM pre)) := by rw [cell_of_row _ _ _ _ _ _ hsv.l]; rfl
    have f4 := frozen_of_row _ _ 0 _ _ hsv.r
    have c4 : X.cell? ⟨w.heap.size, 0, none⟩ = some (.bool false) := by rw [cell_of_row _ _ _ _ _ _ hsv.r]; rfl
    have f6 := frozen_of_row _ _ 0 _ _ hsv.n
    have f7 := frozen_of_row _ _ 0 _ _ hsv.l
    have HX := Lib.hid hsv
    have HLT := Lib.hid (@lastM_lt pre x)
    have HSN := Lib.hid (lastM_snoc pre x)
    have HLN := Lib.hid (show ((pre ++ [x]).length : Int) = (pre.length : Int) + 1 by simp)
    have hln : (pre.length : Int) < 4 := by omega
    have hln0 : (0 : Int) ≤ (pre.length : Int) := by omega
    clear hsv hlen
    generalize lastM pre = z at *
    generalize hL : (pre.length : Int) = L at *
    have HL := Lib.hid hL
    clear hL
    by_cases hx : x ≤ z
    · gi_wp2
      exact ⟨(KeepsOthers.setCell _ _ _).from _, fun h => by have := HLT.out h; omega⟩
    · gi_wp2
      refine ⟨((KeepsOthers.setCell _ _ _).trans (KeepsOthers.setCell _ _ _)).from _, trivial, ?_⟩
      unfold SvL
      rw [HSN.out, HLN.out]
      have h := HX.out
      exact ⟨(heap_other _ _ _ _ (by first | (simp; done) | (simp; omega))).trans ((heap_other _ _ _ _ (by first | (simp; done) | (simp; omega))).trans h.r), one_set ((heap_other _ _ _ _ (by simp)).trans h.n) _, (heap_other _ _ _ _ (by simp)).trans (one_set h.l _), (h.bel.setCell (p := ⟨w.heap.size + 1 + 1, 0, none⟩) (by simp; omega) _).setCell (p := ⟨w.heap.size + 1, 0, none⟩) (by simp) _⟩
  case stop =>
    intro D cc pre X hD hSp hX hK
    exact absurd hSp hX
  case done =>
    rintro D ys X hD rfl hsv hKD
    have c6 : X.cell? ⟨w.heap.size + 1, 0, none⟩ = some (.int .i64 4) := by rw [cell_of_row _ _ _ _ _ _ hsv.n]; rfl
    have c7 : X.cell? ⟨w.heap.size + 1 + 1, 0, none⟩ = some (.int .i64 127) := by rw [cell_of_row _ _ _ _ _ _ hsv.l]; rfl
    have HX := Lib.hid hsv
    have HKD := Lib.hid hKD
    have hzd := HZ.out
    clear hsv hKD c6 c7
    go_wp2_with (go_at_call 12; refine (live21_any _).mono ?_; rintro e y1 ⟨rfl, hb1⟩; have HX1 := Lib.hid (HX.out.below hb1); have HK1 := Lib.hid ((hb1.block _ (Array.getElem?_eq_some_iff.1 HKD.out).1).trans HKD.out); have c6 : y1.cell? ⟨w.heap.size + 1, 0, none⟩ = some (.int .i64 4) := (by rw [cell_of_row _ _ _ _ _ _ HX1.out.n]; rfl); have c7 : y1.cell? ⟨w.heap.size + 1 + 1, 0, none⟩ = some (.int .i64 127) := (by rw [cell_of_row _ _ _ _ _ _ HX1.out.l]; rfl); have f4 := frozen_of_row _ _ 0 _ _ HX1.out.r; have c4 : y1.cell? ⟨w.heap.size, 0, none⟩ = some (.bool false) := (by rw [cell_of_row _ _ _ _ _ _ HX1.out.r]; rfl); clear hb1)
    have hk2 : (y1.setCell ⟨w.heap.size, 0, none⟩ (.bool true)).heap[D]? = some (.deferred (some [])) := (heap_other _ _ _ _ (by simp; omega)).trans HK1.out
    have hr2 := one_set HX1.out.r (.bool true)
    have hb2 := HX1.out.bel.setCell (p := ⟨w.heap.size, 0, none⟩) (by simp) (.bool true)
    have hb3 := hb2.grown (grownBy_putObj' (y1.setCell ⟨w.heap.size, 0, none⟩ (.bool true)) D (.deferred none)) hb2.size (fun k e => by cases e; omega)
    clear c4
    have c4 : ((y1.setCell ⟨w.heap.size, 0, none⟩ (.bool true)).putObj D (.deferred none)).cell? ⟨w.heap.size, 0, none⟩ = some (.bool true) := by
      rw [cell_of_row _ _ _ _ _ _ ((World.putObj_heap_other (by omega)).trans hr2)]; rfl
    refine ⟨by simp, .inl ⟨_, _, rfl, run_takeDeferred hk2, ?_⟩⟩
    refine ⟨.bool true, ?_, rfl, hb3⟩
    simp [results, Try.f5, go_sem, c4]
set_option maxRecDepth 100000 in
set_option maxHeartbeats 4000000 in
theorem services_safe (m s : Int) (w : World) (hq : maySv m s = true) (hs : s = 5) :
    CallsIn Fence.wide 9 Try.prog 5 #[.int .i64 m, .int .i64 s] w fun e w' => e = .returned (.bool true) ∧ Below w.heap.size w w' := by
  have hsv0 : SvI w 0 (-1) (((w.alloc (.cells #[.bool false] 4)).alloc (.cells #[.int .i64 0] 3)).alloc (.cells #[.int .i64 (-1)] 3)) := ⟨(heap_alloc_old _ _ _ (by simp; omega)).trans (heap_alloc2_old w _ _), by
    have := heap_alloc2_old (w.alloc (.cells #[.bool false] 4)) (.cells #[.int .i64 0] 3) (.cells #[.int .i64 (-1)] 3)
    simpa using this, by
    have := heap_alloc2_new (w.alloc (.cells #[.bool false] 4)) (.cells #[.int .i64 0] 3) (.cells #[.int .i64 (-1)] 3)
    simpa using this, (((Below.refl _ _).alloc (Nat.le_refl _) _).alloc (by simp) _).alloc (by simp; omega) _⟩
  have HSV := Lib.hid hsv0
  have HM := Lib.hid (mayS_any m s)
  have HD := Lib.hid (does_any m s)
  obtain ⟨h0, h5⟩ := may_not hq
  have t0 : (m == 0) = false := by simpa using h0
  have t1 : (s == 5) = true := by simpa using hs
  have t2 : (m != 5) = false := by simpa using h5 hs
  rw [hq] at HM HD
  clear hq h0 h5 hs
  have HEQ := eql_modes
  clear hsv0
  refine callsIn_of_wp_marks Try.func5 rfl trivial ?_ rfl
  simp only [Try.ntmps5, List.size_toArray, List.length_cons, List.length_nil, Nat.reduceAdd, Nat.reduceSub, Array.replicate_succ, Array.replicate_zero, List.push_toArray, List.append_toArray, List.nil_append, List.cons_append]
  refine wpIn_wide.2 ?_
  go_wp2_with fail
  refine (HM.out _).mono ?_
  rintro e w1 ⟨rfl, rfl⟩
  go_upto_region 4 with (go_at_call 20; refine (HD.out _).mono ?_; rintro e w1 ⟨rfl, rfl⟩)
  go_wp2_with (go_at_call 21; refine (modes_any _).mono ?_; rintro e w1 ⟨rfl, rfl⟩)
  have hz : (((w.alloc (.cells #[.bool false] 4)).alloc (.cells #[.int .i64 0] 3)).alloc (.cells #[.int .i64 (-1)] 3)).heap.size = w.heap.size + 1 + 1 + 1 := by simp
  have HZ := Lib.hid hz
  clear hz
  generalize (((w.alloc (.cells #[.bool false] 4)).alloc (.cells #[.int .i64 0] 3)).alloc (.cells #[.int .i64 (-1)] 3)) = w1 at *
  have hst := modes_L 8 (by omega) w1
  have hI : SvL w [] w1 := HSV.out
  have hzz : w.heap.size + 1 + 1 < w1.heap.size := by rw [HZ.out]; omega
  clear HM HD HSV
  refine (wpIn_wide (n := 9)).1 ?_
  refine range_L (by omega) (gf := 28) (lb := #[]) rfl (enters_of Try.func28 (by kernel_rfl) rfl) hst (fun _ _ => trivial) (fun _ _ _ _ _ _ _ _ => trivial) (Below.refl _ _) (fun _ => rfl)
    (SvL w) (fun _ pre _ => ¬ pre <+: mds) (SvL_own w _ hzz) (fun _ => ownFrom_pure _ _) hI ?a1 ?assign ?body ?done ?stop
  case assign =>
    intro lp y X K hK
    gi_wp2
    exact hK
  case body =>
    rintro lp pre x X hsv hlen
    have c6 : X.cell? ⟨w.heap.size + 1, 0, none⟩ = some (.int .i64 pre.length) := by rw [cell_of_row _ _ _ _ _ _ hsv.n]; rfl
    have c7 : X.cell? ⟨w.heap.size + 1 + 1, 0, none⟩ = some (.int .i64 (lastM pre)) := by rw [cell_of_row _ _ _ _ _ _ hsv.l]; rfl
    have f4 := frozen_of_row _ _ 0 _ _ hsv.r
    have c4 : X.cell? ⟨w.heap.size, 0, none⟩ = some (.bool false) := by rw [cell_of_row _ _ _ _ _ _ hsv.r]; rfl
    have f6 := frozen_of_row _ _ 0 _ _ hsv.n
    have f7 := frozen_of_row _ _ 0 _ _ hsv.l
    have HX := Lib.hid hsv
    have HLT := Lib.hid (@lastM_lt pre x)
    have HSN := Lib.hid (lastM_snoc pre x)
    have HLN := Lib.hid (show ((pre ++ [x]).length : Int) = (pre.length : Int) + 1 by simp)
    have hln : (pre.length : Int) < 4 := by omega
    have hln0 : (0 : Int) ≤ (pre.length : Int) := by omega
    clear hsv hlen
    generalize lastM pre = z at *
    generalize hL : (pre.length : Int) = L at *
    have HL := Lib.hid hL
    clear hL
    by_cases hx : x ≤ z
    · gi_wp2
      exact ⟨(KeepsOthers.setCell _ _ _).from _, fun h => by have := HLT.out h; omega⟩
    · gi_wp2
      refine ⟨((KeepsOthers.setCell _ _ _).trans (KeepsOthers.setCell _ _ _)).from _, trivial, ?_⟩
      unfold SvL
      rw [HSN.out, HLN.out]
      have h := HX.out
      exact ⟨(heap_other _ _ _ _ (by first | (simp; done) | (simp; omega))).trans ((heap_other _ _ _ _ (by first | (simp; done) | (simp; omega))).trans h.r), one_set ((heap_other _ _ _ _ (by simp)).trans h.n) _, (heap_other _ _ _ _ (by simp)).trans (one_set h.l _), (h.bel.setCell (p := ⟨w.heap.size + 1 + 1, 0, none⟩) (by simp; omega) _).setCell (p := ⟨w.heap.size + 1, 0, none⟩) (by simp) _⟩
  case stop =>
    intro D cc pre X hD hSp hX hK
    exact absurd hSp hX
  case done =>
    rintro D ys X hD rfl hsv hKD
    have c6 : X.cell? ⟨w.heap.size + 1, 0, none⟩ = some (.int .i64 4) := by rw [cell_of_row _ _ _ _ _ _ hsv.n]; rfl
    have c7 : X.cell? ⟨w.heap.size + 1 + 1, 0, none⟩ = some (.int .i64 127) := by rw [cell_of_row _ _ _ _ _ _ hsv.l]; rfl
    have HX := Lib.hid hsv
    have HKD := Lib.hid hKD
    have hzd := HZ.out
    clear hsv hKD c6 c7
    go_wp2_with (go_at_call 12; refine (live21_any _).mono ?_; rintro e y1 ⟨rfl, hb1⟩; have HX1 := Lib.hid (HX.out.below hb1); have HK1 := Lib.hid ((hb1.block _ (Array.getElem?_eq_some_iff.1 HKD.out).1).trans HKD.out); have c6 : y1.cell? ⟨w.heap.size + 1, 0, none⟩ = some (.int .i64 4) := (by rw [cell_of_row _ _ _ _ _ _ HX1.out.n]; rfl); have c7 : y1.cell? ⟨w.heap.size + 1 + 1, 0, none⟩ = some (.int .i64 127) := (by rw [cell_of_row _ _ _ _ _ _ HX1.out.l]; rfl); have f4 := frozen_of_row _ _ 0 _ _ HX1.out.r; have c4 : y1.cell? ⟨w.heap.size, 0, none⟩ = some (.bool false) := (by rw [cell_of_row _ _ _ _ _ _ HX1.out.r]; rfl); clear hb1)
    have hk2 : (y1.setCell ⟨w.heap.size, 0, none⟩ (.bool true)).heap[D]? = some (.deferred (some [])) := (heap_other _ _ _ _ (by simp; omega)).trans HK1.out
    have hr2 := one_set HX1.out.r (.bool true)
    have hb2 := HX1.out.bel.setCell (p := ⟨w.heap.size, 0, none⟩) (by simp) (.bool true)
    have hb3 := hb2.grown (grownBy_putObj' (y1.setCell ⟨w.heap.size, 0, none⟩ (.bool true)) D (.deferred none)) hb2.size (fun k e => by cases e; omega)
    clear c4
    have c4 : ((y1.setCell ⟨w.heap.size, 0, none⟩ (.bool true)).putObj D (.deferred none)).cell? ⟨w.heap.size, 0, none⟩ = some (.bool true) := by
      rw [cell_of_row _ _ _ _ _ _ ((World.putObj_heap_other (by omega)).trans hr2)]; rfl
    refine ⟨by simp, .inl ⟨_, _, rfl, run_takeDeferred hk2, ?_⟩⟩
    refine ⟨.bool true, ?_, rfl, hb3⟩
    simp [results, Try.f5, go_sem, c4]
set_option maxRecDepth 100000 in
set_option maxHeartbeats 4000000 in
theorem services_else (m s : Int) (w : World) (hq : maySv m s = true) (hs : ¬ s = 5) :
    CallsIn Fence.wide 9 Try.prog 5 #[.int .i64 m, .int .i64 s] w fun e w' => e = .returned (.bool true) ∧ Below w.heap.size w w' := by
  have hsv0 : SvI w 0 (-1) (((w.alloc (.cells #[.bool false] 4)).alloc (.cells #[.int .i64 0] 3)).alloc (.cells #[.int .i64 (-1)] 3)) := ⟨(heap_alloc_old _ _ _ (by simp; omega)).trans (heap_alloc2_old w _ _), by
    have := heap_alloc2_old (w.alloc (.cells #[.bool false] 4)) (.cells #[.int .i64 0] 3) (.cells #[.int .i64 (-1)] 3)
    simpa using this, by
    have := heap_alloc2_new (w.alloc (.cells #[.bool false] 4)) (.cells #[.int .i64 0] 3) (.cells #[.int .i64 (-1)] 3)
    simpa using this, (((Below.refl _ _).alloc (Nat.le_refl _) _).alloc (by simp) _).alloc (by simp; omega) _⟩
  have HSV := Lib.hid hsv0
  have HM := Lib.hid (mayS_any m s)
  have HD := Lib.hid (does_any m s)
  obtain ⟨h0, h5⟩ := may_not hq
  have t0 : (m == 0) = false := by simpa using h0
  have t1 : (s == 5) = false := by simpa using hs
  rw [hq] at HM HD
  clear hq h0 h5 hs
  have HEQ := eql_modes
  clear hsv0
  refine callsIn_of_wp_marks Try.func5 rfl trivial ?_ rfl
  simp only [Try.ntmps5, List.size_toArray, List.length_cons, List.length_nil, Nat.reduceAdd, Nat.reduceSub, Array.replicate_succ, Array.replicate_zero, List.push_toArray, List.append_toArray, List.nil_append, List.cons_append]
  refine wpIn_wide.2 ?_
  go_wp2_with fail
  refine (HM.out _).mono ?_
  rintro e w1 ⟨rfl, rfl⟩
  go_upto_region 4 with (go_at_call 20; refine (HD.out _).mono ?_; rintro e w1 ⟨rfl, rfl⟩)
  go_wp2_with (go_at_call 21; refine (modes_any _).mono ?_; rintro e w1 ⟨rfl, rfl⟩)
  have hz : (((w.alloc (.cells #[.bool false] 4)).alloc (.cells #[.int .i64 0] 3)).alloc (.cells #[.int .i64 (-1)] 3)).heap.size = w.heap.size + 1 + 1 + 1 := by simp
  have HZ := Lib.hid hz
  clear hz
  generalize (((w.alloc (.cells #[.bool false] 4)).alloc (.cells #[.int .i64 0] 3)).alloc (.cells #[.int .i64 (-1)] 3)) = w1 at *
  have hst := modes_L 8 (by omega) w1
  have hI : SvL w [] w1 := HSV.out
  have hzz : w.heap.size + 1 + 1 < w1.heap.size := by rw [HZ.out]; omega
  clear HM HD HSV
  refine (wpIn_wide (n := 9)).1 ?_
  refine range_L (by omega) (gf := 28) (lb := #[]) rfl (enters_of Try.func28 (by kernel_rfl) rfl) hst (fun _ _ => trivial) (fun _ _ _ _ _ _ _ _ => trivial) (Below.refl _ _) (fun _ => rfl)
    (SvL w) (fun _ pre _ => ¬ pre <+: mds) (SvL_own w _ hzz) (fun _ => ownFrom_pure _ _) hI ?a1 ?assign ?body ?done ?stop
  case assign =>
    intro lp y X K hK
    gi_wp2
    exact hK
  case body =>
    rintro lp pre x X hsv hlen
    have c6 : X.cell? ⟨w.heap.size + 1, 0, none⟩ = some (.int .i64 pre.length) := by rw [cell_of_row _ _ _ _ _ _ hsv.n]; rfl
    have c7 : X.cell? ⟨w.heap.size + 1 + 1, 0, none⟩ = some (.int .i64 (lastM pre)) := by rw [cell_of_row _ _ _ _ _ _ hsv.l]; rfl
    have f4 := frozen_of_row _ _ 0 _ _ hsv.r
    have c4 : X.cell? ⟨w.heap.size, 0, none⟩ = some (.bool false) := by rw [cell_of_row _ _ _ _ _ _ hsv.r]; rfl
    have f6 := frozen_of_row _ _ 0 _ _ hsv.n
    have f7 := frozen_of_row _ _ 0 _ _ hsv.l
    have HX := Lib.hid hsv
    have HLT := Lib.hid (@lastM_lt pre x)
    have HSN := Lib.hid (lastM_snoc pre x)
    have HLN := Lib.hid (show ((pre ++ [x]).length : Int) = (pre.length : Int) + 1 by simp)
    have hln : (pre.length : Int) < 4 := by omega
    have hln0 : (0 : Int) ≤ (pre.length : Int) := by omega
    clear hsv hlen
    generalize lastM pre = z at *
    generalize hL : (pre.length : Int) = L at *
    have HL := Lib.hid hL
    clear hL
    by_cases hx : x ≤ z
    · gi_wp2
      exact ⟨(KeepsOthers.setCell _ _ _).from _, fun h => by have := HLT.out h; omega⟩
    · gi_wp2
      refine ⟨((KeepsOthers.setCell _ _ _).trans (KeepsOthers.setCell _ _ _)).from _, trivial, ?_⟩
      unfold SvL
      rw [HSN.out, HLN.out]
      have h := HX.out
      exact ⟨(heap_other _ _ _ _ (by first | (simp; done) | (simp; omega))).trans ((heap_other _ _ _ _ (by first | (simp; done) | (simp; omega))).trans h.r), one_set ((heap_other _ _ _ _ (by simp)).trans h.n) _, (heap_other _ _ _ _ (by simp)).trans (one_set h.l _), (h.bel.setCell (p := ⟨w.heap.size + 1 + 1, 0, none⟩) (by simp; omega) _).setCell (p := ⟨w.heap.size + 1, 0, none⟩) (by simp) _⟩
  case stop =>
    intro D cc pre X hD hSp hX hK
    exact absurd hSp hX
  case done =>
    rintro D ys X hD rfl hsv hKD
    have c6 : X.cell? ⟨w.heap.size + 1, 0, none⟩ = some (.int .i64 4) := by rw [cell_of_row _ _ _ _ _ _ hsv.n]; rfl
    have c7 : X.cell? ⟨w.heap.size + 1 + 1, 0, none⟩ = some (.int .i64 127) := by rw [cell_of_row _ _ _ _ _ _ hsv.l]; rfl
    have HX := Lib.hid hsv
    have HKD := Lib.hid hKD
    have hzd := HZ.out
    clear hsv hKD c6 c7
    go_wp2_with (go_at_call 12; refine (live21_any _).mono ?_; rintro e y1 ⟨rfl, hb1⟩; have HX1 := Lib.hid (HX.out.below hb1); have HK1 := Lib.hid ((hb1.block _ (Array.getElem?_eq_some_iff.1 HKD.out).1).trans HKD.out); have c6 : y1.cell? ⟨w.heap.size + 1, 0, none⟩ = some (.int .i64 4) := (by rw [cell_of_row _ _ _ _ _ _ HX1.out.n]; rfl); have c7 : y1.cell? ⟨w.heap.size + 1 + 1, 0, none⟩ = some (.int .i64 127) := (by rw [cell_of_row _ _ _ _ _ _ HX1.out.l]; rfl); have f4 := frozen_of_row _ _ 0 _ _ HX1.out.r; have c4 : y1.cell? ⟨w.heap.size, 0, none⟩ = some (.bool false) := (by rw [cell_of_row _ _ _ _ _ _ HX1.out.r]; rfl); clear hb1)
    have hk2 : (y1.setCell ⟨w.heap.size, 0, none⟩ (.bool true)).heap[D]? = some (.deferred (some [])) := (heap_other _ _ _ _ (by simp; omega)).trans HK1.out
    have hr2 := one_set HX1.out.r (.bool true)
    have hb2 := HX1.out.bel.setCell (p := ⟨w.heap.size, 0, none⟩) (by simp) (.bool true)
    have hb3 := hb2.grown (grownBy_putObj' (y1.setCell ⟨w.heap.size, 0, none⟩ (.bool true)) D (.deferred none)) hb2.size (fun k e => by cases e; omega)
    clear c4
    have c4 : ((y1.setCell ⟨w.heap.size, 0, none⟩ (.bool true)).putObj D (.deferred none)).cell? ⟨w.heap.size, 0, none⟩ = some (.bool true) := by
      rw [cell_of_row _ _ _ _ _ _ ((World.putObj_heap_other (by omega)).trans hr2)]; rfl
    refine ⟨by simp, .inl ⟨_, _, rfl, run_takeDeferred hk2, ?_⟩⟩
    refine ⟨.bool true, ?_, rfl, hb3⟩
    simp [results, Try.f5, go_sem, c4]
theorem services_any (m s : Int) (w : World) :
    Calls Try.prog 5 #[.int .i64 m, .int .i64 s] w fun e w' => e = .returned (.bool true) ∧ Below w.heap.size w w' := by
  cases hq : maySv m s with
  | false => exact callsIn_wide.1 (services_no m s w hq)
  | true =>
    by_cases hs : s = 5
    · exact callsIn_wide.1 (services_safe m s w hq hs)
    · exact callsIn_wide.1 (services_else m s w hq hs)
end Go.Proofs.Ytnijdcbpllmieaa
