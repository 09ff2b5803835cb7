/- The document's maker. -/
import Derived.Test.YthofimkjemhnoaaPBTw
import Derived.Test.YthofimkjemhnoaaPBUc
import Derived.Test.YthofimkjemhnoaaPBFrameI
namespace Go.Proofs.Ythofimkjemhnoaa
open Go.RowKit
set_option linter.unusedSimpArgs false
set_option linter.unusedVariables false

/-- When a beat is due behind now, as the document reckons it. -/
def nextE (f p n : Int) : Int := if n < f then f else f + p * ((n - f) / p + 1)
def dueE (f p n : Int) : Int := if p = 0 then -1 else if 2147483647 < nextE f p n then -1 else nextE f p n
theorem next_bd {f p n : Int} (hf : 0 ≤ f) (hp : 1 ≤ p) (h : f ≤ n) : n < nextE f p n ∧ nextE f p n ≤ n + p := by
  unfold nextE
  rw [if_neg (by omega)]
  have h1 := Int.mul_ediv_self_le (x := n - f) (k := p) (by omega)
  have h2 := Int.lt_mul_ediv_self_add (x := n - f) (k := p) (by omega)
  have h3 : p * ((n - f) / p + 1) = p * ((n - f) / p) + p := by rw [Int.mul_add, Int.mul_one]
  omega
theorem due_zero (f n : Int) (w : World) : Calls Try.prog 31 #[.int .i64 f, .int .i64 0, .int .i64 n] w fun e w' => e = .returned (.int .i64 (-1)) ∧ w = w' := by
  go_enter Try.func31, Try.ntmps31
  go_wp2
  go_ret
  exact ⟨rfl, rfl⟩
theorem due_var (f p n q X r : Int) (w : World) (hf0 : 0 ≤ f) (hf1 : f ≤ 2147483647) (hp0 : 1 ≤ p) (hp1 : p ≤ 2147483647) (hn0 : f ≤ n) (hn1 : n ≤ 2147483647) (hq : (n - f) / p = q) (hq0 : 0 ≤ q) (hq1 : q ≤ 2147483647) (hX : p * (q + 1) = X) (hX0 : 0 ≤ X) (hX1 : X ≤ 4294967294)
    (hr : (2147483647 < f + X ∧ r = -1) ∨ (¬ 2147483647 < f + X ∧ r = f + X)) :
    Calls Try.prog 31 #[.int .i64 f, .int .i64 p, .int .i64 n] w fun e w' => e = .returned (.int .i64 r) ∧ w = w' := by
  have t0 : (p == 0) = false := by simp; omega
  have e1 : IntKind.i64.wrap (n - f) = n - f := IntWalk.i64_in _ (by omega)
  have e2 : IntKind.i64.wrap ((n - f).tdiv p) = q := by rw [IntWalk.i64_quo _ _ (by omega), hq]
  have e3 : IntKind.i64.wrap (q + 1) = q + 1 := IntWalk.i64_in _ (by omega)
  have e4 : IntKind.i64.wrap (p * (q + 1)) = X := by rw [hX]; exact IntWalk.i64_in _ (by omega)
  have e5 : IntKind.i64.wrap (f + X) = f + X := IntWalk.i64_in _ (by omega)
  have HQ := Lib.hid hq
  have HXX := Lib.hid hX
  clear hq hX
  rcases hr with ⟨h1, rfl⟩ | ⟨h1, rfl⟩
  all_goals
    go_enter Try.func31, Try.ntmps31
    go_wp2
    first | (go_ret; exact ⟨rfl, rfl⟩) | (trace_state; sorry)
theorem due_any (f p n : Int) (w : World) (hf0 : 0 ≤ f) (hf1 : f ≤ 2147483647) (hp0 : 0 ≤ p) (hp1 : p ≤ 2147483647) (hn0 : f ≤ n) (hn1 : n ≤ 2147483647) :
    Calls Try.prog 31 #[.int .i64 f, .int .i64 p, .int .i64 n] w fun e w' => e = .returned (.int .i64 (dueE f p n)) ∧ w = w' := by
  by_cases hz : p = 0
  · subst hz; exact due_zero f n w
  · have hb := next_bd hf0 (show 1 ≤ p by omega) hn0
    have hq0 : 0 ≤ (n - f) / p := Int.ediv_nonneg (by omega) (by omega)
    have hq1 : (n - f) / p ≤ n - f := Int.ediv_le_self _ (by omega)
    have hx : nextE f p n = f + p * ((n - f) / p + 1) := if_neg (by omega)
    refine due_var f p n _ (p * ((n - f) / p + 1)) _ w hf0 hf1 (by omega) hp1 hn0 hn1 rfl hq0 (by omega) rfl (by omega) (by omega) ?_
    unfold dueE
    rw [if_neg hz, hx]
    by_cases hc : 2147483647 < f + p * ((n - f) / p + 1)
    · exact .inl ⟨hc, if_pos hc⟩
    · exact .inr ⟨hc, if_neg hc⟩
def RmAt (w : World) (g : Nat) (p x : Int) : Prop := w.heap[g]? = some (.cells #[.int .i64 p, .int .i64 x] 34 (0, 0))
theorem RmAt.lt {w : World} {g : Nat} {p x : Int} (h : RmAt w g p x) : g < w.heap.size := (Array.getElem?_eq_some_iff.1 h).1
theorem RmAt.cells {w : World} {g : Nat} {p x : Int} (h : RmAt w g p x) : w.cell? ⟨g, 0, none⟩ = some (.int .i64 p) ∧ w.cell? ⟨g, 1, none⟩ = some (.int .i64 x) := by
  constructor <;> (rw [cell_of_row _ _ _ _ _ _ h]; rfl)
theorem RmAt.below {B g : Nat} {w w' : World} {p x : Int} (h : RmAt w g p x) (hb : Below B w w') (hg : g < B) : RmAt w' g p x := (hb.block g hg).trans h
theorem RmAt.row {w : World} {g : Nat} {p x : Int} (h : RmAt w g p x) (p' x' : Int) : RmAt (w.setRow g #[.int .i64 p', .int .i64 x']) g p' x' := setRow_heap _ _ _ _ _ (0, 0) h
theorem info_rm : (Try.prog.info? 34).map (·.size) = some 2 := by kernel_rfl
theorem one_rm (p x : Int) : (#[.int .i64 p, .int .i64 x] : Array Value).all (·.oneCell') = true := by simp [Value.oneCell']
theorem rset_any (p now : Int) (w : World) (hp0 : 0 ≤ p) (hp1 : p ≤ 2147483647) (hn0 : 0 ≤ now) (hn1 : now ≤ 2147483647) :
    Calls Try.prog 13 #[.int .i64 p, .int .i64 now] w fun e w' => e = .returned (.agg #[.int .i64 p, .int .i64 (dueE now p now)]) ∧ Below w.heap.size w w' := by
  have HD := Lib.hid (fun w => due_any now p now w hn0 hn1 hp0 hp1 (Int.le_refl _) hn1)
  generalize dueE now p now = x at *
  go_enter Try.func13, Try.ntmps13
  go_wp2_with (go_at_call 31; refine (HD.out _).mono ?_; rintro e w1 ⟨rfl, rfl⟩)
  exact bodyPost_ret (results_cell_row rfl _ _ w.heap.size _ _ _ _ rfl (heap_alloc_new w _) Try.underlying34 rfl info_rm) rfl ⟨rfl, by go_grown⟩
theorem rtick_no (p x now : Int) (w : World) (h : x < 0 ∨ now < x) :
    Calls Try.prog 32 #[.agg #[.int .i64 p, .int .i64 x], .int .i64 now] w fun e w' => e = .returned (.tuple #[.agg #[.int .i64 p, .int .i64 x], .bool false]) ∧ Below w.heap.size w w' := by
  rcases h with h | h
  · go_enter Try.func32, Try.ntmps32
    go_wp2_with fail
    exact bodyPost_ret (results_cell_tmp_row rfl _ _ (w.heap.size + 1) _ _ _ _ rfl (heap_alloc2_new w _ _) Try.underlying34 rfl info_rm) rfl ⟨rfl, by go_grown⟩
  · by_cases h0 : x < 0
    · go_enter Try.func32, Try.ntmps32
      go_wp2_with fail
      exact bodyPost_ret (results_cell_tmp_row rfl _ _ (w.heap.size + 1) _ _ _ _ rfl (heap_alloc2_new w _ _) Try.underlying34 rfl info_rm) rfl ⟨rfl, by go_grown⟩
    · go_enter Try.func32, Try.ntmps32
      go_wp2_with fail
      exact bodyPost_ret (results_cell_tmp_row rfl _ _ (w.heap.size + 1) _ _ _ _ rfl (heap_alloc2_new w _ _) Try.underlying34 rfl info_rm) rfl ⟨rfl, by go_grown⟩
theorem rtick_yes (p x now : Int) (w : World) (h0 : 0 ≤ x) (h1 : x ≤ now) (hn1 : now ≤ 2147483647) (hp0 : 0 ≤ p) (hp1 : p ≤ 2147483647) :
    Calls Try.prog 32 #[.agg #[.int .i64 p, .int .i64 x], .int .i64 now] w fun e w' => e = .returned (.tuple #[.agg #[.int .i64 p, .int .i64 (dueE x p now)], .bool true]) ∧ Below w.heap.size w w' := by
  have HD := Lib.hid (fun w => due_any x p now w h0 (by omega) hp0 hp1 h1 hn1)
  generalize dueE x p now = y at *
  have h2 : ¬ x < 0 := by omega
  have h3 : ¬ now < x := by omega
  go_enter Try.func32, Try.ntmps32
  go_wp2_with (go_at_call 31; refine (HD.out _).mono ?_; rintro e w1 ⟨rfl, rfl⟩)
  exact bodyPost_ret (results_cell_tmp_row rfl _ _ (w.heap.size + 1) _ _ _ _ rfl (heap_alloc2_new w _ _) Try.underlying34 rfl info_rm) rfl ⟨rfl, by go_grown⟩
/-- What Every answers is what the document reckons. -/
theorem every_due (w : World) (x p now : Int) (h0 : 0 ≤ x) (h1 : x ≤ now) (hn1 : now ≤ 2147483647) (hp0 : 1 ≤ p) (hp1 : p ≤ 2147483647) :
    Calls Try.prog 42 #[.int .i64 x, .int .i64 p, .int .i64 now] w fun e w' => e = .returned (.tuple #[.int .i64 (if dueE x p now = -1 then 0 else dueE x p now), .bool (!decide (dueE x p now = -1))]) ∧ w = w' := by
  have hb := next_bd h0 hp0 h1
  have hx : nextE x p now = x + p * ((now - x) / p + 1) := if_neg (by omega)
  have hq0 : 0 ≤ (now - x) / p := Int.ediv_nonneg (by omega) (by omega)
  have hm : (now - x) / p ≤ (2147483647 - x) / p := Int.ediv_le_ediv (by omega) (by omega)
  have h2 := Int.mul_ediv_self_le (x := 2147483647 - x) (k := p) (by omega)
  have h3 := Int.lt_mul_ediv_self_add (x := 2147483647 - x) (k := p) (by omega)
  have hd : dueE x p now = if 2147483647 < nextE x p now then -1 else nextE x p now := if_neg (by omega)
  have hc : p * ((now - x) / p + 1) = ((now - x) / p + 1) * p := Int.mul_comm _ _
  by_cases hl : 2147483647 < nextE x p now
  · rw [hd, if_pos hl]
    have e : (now - x) / p = (2147483647 - x) / p := by
      refine Int.le_antisymm hm ?_
      by_cases hh : (now - x) / p + 1 ≤ (2147483647 - x) / p
      · have := Int.mul_le_mul_of_nonneg_left hh (show 0 ≤ p by omega)
        omega
      · omega
    exact (every_good w x p now ((now - x) / p) 0 false ⟨⟨h0, by omega⟩, ⟨hp0, hp1⟩, by omega, hn1⟩ (.inr ⟨h1, rfl, .inl ⟨e, rfl, rfl⟩⟩)).mono (fun e w' h => ⟨h.1, h.2.symm⟩)
  · rw [hd, if_neg hl]
    have e : (now - x) / p ≠ (2147483647 - x) / p := fun e => by
      rw [hx, e] at hl
      have h4 : p * ((2147483647 - x) / p + 1) = p * ((2147483647 - x) / p) + p := by rw [Int.mul_add, Int.mul_one]
      omega
    have hne : ¬ nextE x p now = -1 := by omega
    rw [if_neg hne, show decide (nextE x p now = -1) = false from decide_eq_false hne, hx]
    exact (every_good w x p now ((now - x) / p) (x + p * ((now - x) / p + 1)) true ⟨⟨h0, by omega⟩, ⟨hp0, hp1⟩, by omega, hn1⟩ (.inr ⟨h1, rfl, .inr ⟨e, by rw [hc], rfl⟩⟩)).mono (fun e w' h => ⟨h.1, h.2.symm⟩)
end Go.Proofs.Ythofimkjemhnoaa
