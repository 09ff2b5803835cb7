/- prod: is a maker due, and when. -/
import Derived.Test.YtllaajkpobpeiaaOe
import Derived.Deep.RegionHeld3
namespace Go.Proofs.Ytllaajkpobpeiaa
open Go.RowKit
set_option linter.unusedSimpArgs false
set_option linter.unusedVariables false

theorem pbetween_any (n x : Int) (w : World) (hn : 0 ≤ n) (hx : 0 ≤ x) (hx2 : x ≤ 9223372036854775807) : Calls Try.prog 48 #[.int .i64 n, .int .i64 x] w fun e w' => e = .returned (.int .i64 (if x ≤ n then 0 else x - n)) ∧ w = w' := by
  by_cases h : x ≤ n
  · rw [if_pos h]
    clear hn hx hx2
    go_enter Try.func48, Try.ntmps48
    go_wp2_with fail
    go_ret
    exact ⟨rfl, rfl⟩
  · rw [if_neg h]
    have t1 : decide (x ≤ n) = false := by simpa using h
    have e1 : IntKind.i64.wrap (x - 9223372036854775807) = x - 9223372036854775807 := IntWalk.i64_in _ (by omega)
    have e2 : IntKind.i64.wrap (x - n) = x - n := IntWalk.i64_in _ (by omega)
    have t2 : ¬ n < x - 9223372036854775807 := by omega
    clear hn hx hx2
    go_enter Try.func48, Try.ntmps48
    go_wp2_with fail
    all_goals first | (go_ret; exact ⟨rfl, rfl⟩) | (exfalso; omega)
theorem wpQuiet_load_mid {P : Program} {ops : Array Oper} {C : World → Prop} {Q : Act → Prop} {a : Act} {o : Oper} {rest : List Oper} (hw : Region.wanted o (yielded ops a.tmps) = true) (ty : TypeId) (x : Operand) (ho : o.op = .load ty x)
    (b off : Nat) (hx : a.eval x = .pointer (some ⟨b, off, none⟩)) (cs : List Value) (d : TypeDesc) (hc : ∀ w, C w → w.rangeAt b off cs) (hu : P.underlying ty = some d) (hd : d.isRow = true) (hi : (P.info? ty).map (·.size) = some cs.length)
    (h : wpQuiet P ops C Q rest (a.put o.dst (.agg cs.toArray))) : wpQuiet P ops C Q (o :: rest) a :=
  BigFrame.wpQuiet_want hw fun K hK => ⟨.agg cs.toArray, fun w hC => by
    unfold Oper.quietAt execOp
    simp only [ho, hx, Instr.loadAt, Instr.sureAddr, Sem.run_bind, Sem.run_pure, Result.andThen_ok, run_loadVar_mid w b off ty cs d (hc w hC) hu hd hi]
    exact ⟨rfl, rfl⟩, hK _ h⟩
section
variable {g : Nat} {w : World} {b : Bool} {x0 : ChV} {t n : Int}
set_option maxRecDepth 100000 in
set_option maxHeartbeats 4000000 in
theorem due_rest (now : Int) (x : ChV) (h : MkAt w g b x0 t n) (hb : b = false) : Calls Try.prog 46 #[.pointer (some ⟨g, 0, none⟩), .int .i64 now, .agg (chA x)] w fun e w' => e = .returned (.bool true) ∧ Below w.heap.size w w' := by
  have hb0 : Below w.heap.size w (w.alloc (.cells (chA x) 29)) := (Below.refl _ _).alloc (Nat.le_refl _) _
  have hx0 : ChAt (w.alloc (.cells (chA x) 29)) w.heap.size x := heap_alloc_new w _
  have hm0 := h.below hb0
  have HB0 := Lib.hid hb0
  have HL1 : Hid (∀ x', (∃ kk, x' = (w.alloc (.cells (chA x) 29)).drewN kk) → x'.rangeAt g 1 (chA x0).toList) := Lib.hid (by rintro x' ⟨kk, rfl⟩; exact hm0.mid)
  have HL2 : Hid (∀ x', (∃ kk, x' = (w.alloc (.cells (chA x) 29)).drewN kk) → x'.rangeAt w.heap.size 0 (chA x).toList) := Lib.hid (by rintro x' ⟨kk, rfl⟩; exact fun j v hv => (show (w.alloc (.cells (chA x) 29)).cell? ⟨w.heap.size, 0 + j, none⟩ = some v from by rw [cell_of_row _ _ _ _ _ _ hx0, Nat.zero_add]; simpa using hv))
  have HCX : Hid ((Try.prog.info? 29).map (·.size) = some (chA x).toList.length) := Lib.hid info_chan
  have HCY : Hid ((Try.prog.info? 29).map (·.size) = some (chA x0).toList.length) := Lib.hid info_chan
  have hq := fun w => run_eq_chan w x0 x
  obtain ⟨c0, c2, c3, c4⟩ := hm0.cells
  obtain ⟨a0, a1, a2, a3, a4, a5⟩ := hx0.cells
  subst hb
  clear h hm0 hx0 hb0
  generalize chA x0 = CY at *
  generalize chA x = CX at *
  go_enter Try.func46, Try.ntmps46
  go_wp2_with fail
  generalize w.alloc (.cells CX 29) = w0 at *
  go_quiet (fail)
  go_wp2_with fail
  go_ret
  exact ⟨rfl, below_drewN HB0.out _⟩
set_option maxRecDepth 100000 in
set_option maxHeartbeats 4000000 in
theorem due_other (now : Int) (x : ChV) (h : MkAt w g b x0 t n) (hb : b = true) (hc : chB x0 x = false) : Calls Try.prog 46 #[.pointer (some ⟨g, 0, none⟩), .int .i64 now, .agg (chA x)] w fun e w' => e = .returned (.bool true) ∧ Below w.heap.size w w' := by
  have hb0 : Below w.heap.size w (w.alloc (.cells (chA x) 29)) := (Below.refl _ _).alloc (Nat.le_refl _) _
  have hx0 : ChAt (w.alloc (.cells (chA x) 29)) w.heap.size x := heap_alloc_new w _
  have hm0 := h.below hb0
  have HB0 := Lib.hid hb0
  have HL1 : Hid (∀ x', (∃ kk, x' = (w.alloc (.cells (chA x) 29)).drewN kk) → x'.rangeAt g 1 (chA x0).toList) := Lib.hid (by rintro x' ⟨kk, rfl⟩; exact hm0.mid)
  have HL2 : Hid (∀ x', (∃ kk, x' = (w.alloc (.cells (chA x) 29)).drewN kk) → x'.rangeAt w.heap.size 0 (chA x).toList) := Lib.hid (by rintro x' ⟨kk, rfl⟩; exact fun j v hv => (show (w.alloc (.cells (chA x) 29)).cell? ⟨w.heap.size, 0 + j, none⟩ = some v from by rw [cell_of_row _ _ _ _ _ _ hx0, Nat.zero_add]; simpa using hv))
  have HCX : Hid ((Try.prog.info? 29).map (·.size) = some (chA x).toList.length) := Lib.hid info_chan
  have HCY : Hid ((Try.prog.info? 29).map (·.size) = some (chA x0).toList.length) := Lib.hid info_chan
  have hq := fun w => run_eq_chan w x0 x
  obtain ⟨c0, c2, c3, c4⟩ := hm0.cells
  obtain ⟨a0, a1, a2, a3, a4, a5⟩ := hx0.cells
  subst hb
  rw [hc] at hq
  clear h hm0 hx0 hb0
  generalize chA x0 = CY at *
  generalize chA x = CX at *
  go_enter Try.func46, Try.ntmps46
  go_wp2_with fail
  generalize w.alloc (.cells CX 29) = w0 at *
  refine wp_region_quiet_lit (by kernel_rfl) (by kernel_rfl) ?_
  repeat (go_big_quiet_step (fail))
  refine wpQuiet_load_mid (by kernel_rfl) _ (.tmp 15) rfl g 1 rfl _ _ HL1.out Try.underlying29 rfl HCY.out ?_
  refine wpQuiet_load_mid (by kernel_rfl) _ (.tmp 5) rfl w.heap.size 0 rfl _ _ HL2.out Try.underlying29 rfl HCX.out ?_
  simp only [Array.toArray_toList]
  quiet_step (fail)
  repeat (go_big_quiet_step (fail))
  refine wpQuiet_nil ?_
  intro _ hw'
  obtain ⟨nq, hw''⟩ := hw'
  subst hw''
  go_wp2_with fail
  go_ret
  exact ⟨rfl, below_drewN HB0.out _⟩
set_option maxRecDepth 100000 in
set_option maxHeartbeats 4000000 in
theorem due_time (now : Int) (x : ChV) (h : MkAt w g b x0 t n) (hb : b = true) (hc : chB x0 x = true) (ht : 0 ≤ t ∧ t ≤ now ∧ now ≤ 2147483647) : Calls Try.prog 46 #[.pointer (some ⟨g, 0, none⟩), .int .i64 now, .agg (chA x)] w fun e w' => e = .returned (.bool (decide (x.time ≤ now - t))) ∧ Below w.heap.size w w' := by
  have hb0 : Below w.heap.size w (w.alloc (.cells (chA x) 29)) := (Below.refl _ _).alloc (Nat.le_refl _) _
  have hx0 : ChAt (w.alloc (.cells (chA x) 29)) w.heap.size x := heap_alloc_new w _
  have hm0 := h.below hb0
  have HB0 := Lib.hid hb0
  have HL1 : Hid (∀ x', (∃ kk, x' = (w.alloc (.cells (chA x) 29)).drewN kk) → x'.rangeAt g 1 (chA x0).toList) := Lib.hid (by rintro x' ⟨kk, rfl⟩; exact hm0.mid)
  have HL2 : Hid (∀ x', (∃ kk, x' = (w.alloc (.cells (chA x) 29)).drewN kk) → x'.rangeAt w.heap.size 0 (chA x).toList) := Lib.hid (by rintro x' ⟨kk, rfl⟩; exact fun j v hv => (show (w.alloc (.cells (chA x) 29)).cell? ⟨w.heap.size, 0 + j, none⟩ = some v from by rw [cell_of_row _ _ _ _ _ _ hx0, Nat.zero_add]; simpa using hv))
  have HCX : Hid ((Try.prog.info? 29).map (·.size) = some (chA x).toList.length) := Lib.hid info_chan
  have HCY : Hid ((Try.prog.info? 29).map (·.size) = some (chA x0).toList.length) := Lib.hid info_chan
  have hq := fun w => run_eq_chan w x0 x
  obtain ⟨c0, c2, c3, c4⟩ := hm0.cells
  obtain ⟨a0, a1, a2, a3, a4, a5⟩ := hx0.cells
  subst hb
  rw [hc] at hq
  have hw : IntKind.i64.wrap (now - t) = now - t := IntWalk.i64_in _ (by omega)
  clear h hm0 hx0 hb0
  generalize chA x0 = CY at *
  generalize chA x = CX at *
  go_enter Try.func46, Try.ntmps46
  go_wp2_with fail
  generalize w.alloc (.cells CX 29) = w0 at *
  refine wp_region_quiet_lit (by kernel_rfl) (by kernel_rfl) ?_
  repeat (go_big_quiet_step (fail))
  refine wpQuiet_load_mid (by kernel_rfl) _ (.tmp 15) rfl g 1 rfl _ _ HL1.out Try.underlying29 rfl HCY.out ?_
  refine wpQuiet_load_mid (by kernel_rfl) _ (.tmp 5) rfl w.heap.size 0 rfl _ _ HL2.out Try.underlying29 rfl HCX.out ?_
  simp only [Array.toArray_toList]
  quiet_step (fail)
  repeat (go_big_quiet_step (fail))
  refine wpQuiet_nil ?_
  intro _ hw'
  obtain ⟨nq, hw''⟩ := hw'
  subst hw''
  go_wp2_with fail
  go_ret
  exact ⟨rfl, below_drewN HB0.out _⟩
end
end Go.Proofs.Ytllaajkpobpeiaa
