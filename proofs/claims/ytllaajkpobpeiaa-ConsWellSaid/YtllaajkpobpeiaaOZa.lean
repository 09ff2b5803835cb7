/- guard: a guard in memory, and what its two waits do. -/
import Derived.Test.YtllaajkpobpeiaaOJb
import Derived.Test.YtllaajkpobpeiaaProg
import Derived.Laws.Rows
import Derived.Deep.CutBlock
import Derived.Deep.RegionHeld3
import Derived.Deep.QuietTactic
import Derived.BigQuiet
namespace Go.Proofs.Ytllaajkpobpeiaa
open Go.RowKit
set_option linter.unusedSimpArgs false
set_option linter.unusedVariables false
/-- A guard's block. -/
def GdAt (w : World) (g : Nat) (T : Int) (a : Bool) (f G : Int) (b : Bool) (k : Int) : Prop :=
  w.heap[g]? = some (.cells #[.int .i64 T, .bool a, .int .i64 f, .int .i64 G, .bool b, .int .i64 k] 136 (0, 0))
section
variable {g : Nat} {w w' x : World} {T f G k : Int} {a b : Bool}
theorem GdAt.lt (h : GdAt w g T a f G b k) : g < w.heap.size := (Array.getElem?_eq_some_iff.1 h).1
theorem GdAt.cells (h : GdAt w g T a f G b k) : w.cell? ⟨g, 0, none⟩ = some (.int .i64 T) ∧ w.cell? ⟨g, 1, none⟩ = some (.bool a) ∧ w.cell? ⟨g, 2, none⟩ = some (.int .i64 f) ∧ w.cell? ⟨g, 3, none⟩ = some (.int .i64 G) ∧ w.cell? ⟨g, 4, none⟩ = some (.bool b) ∧ w.cell? ⟨g, 5, none⟩ = some (.int .i64 k) :=
  ⟨by rw [cell_of_row _ _ _ _ _ _ h]; rfl, by rw [cell_of_row _ _ _ _ _ _ h]; rfl, by rw [cell_of_row _ _ _ _ _ _ h]; rfl, by rw [cell_of_row _ _ _ _ _ _ h]; rfl, by rw [cell_of_row _ _ _ _ _ _ h]; rfl, by rw [cell_of_row _ _ _ _ _ _ h]; rfl⟩
theorem GdAt.frozen (h : GdAt w g T a f G b k) (i : Nat) : w.frozen? ⟨g, i, none⟩ = false := frozen_of_row _ _ _ _ _ h
theorem GdAt.below (h : GdAt w g T a f G b k) (hb : Below w.heap.size w w') : GdAt w' g T a f G b k := (hb.block g h.lt).trans h
theorem GdAt.onl (h : GdAt w g T a f G b k) {q : Nat} (ho : Onl q w w') (hn : ¬ g = q) : GdAt w' g T a f G b k := (ho.oth g h.lt hn).trans h
theorem GdAt.begin0 (h : GdAt w g T a f G b k) (n : Int) : GdAt ((w.setCell ⟨g, 1, none⟩ (.bool true)).setCell ⟨g, 2, none⟩ (.int .i64 n)) g T true n G b k :=
  heap_setCell_same _ g 2 _ _ _ (heap_setCell_same w g 1 _ _ _ h)
theorem GdAt.begin3 (h : GdAt w g T a f G b k) (n : Int) : GdAt ((w.setCell ⟨g, 4, none⟩ (.bool true)).setCell ⟨g, 5, none⟩ (.int .i64 n)) g T a f G true n :=
  heap_setCell_same _ g 5 _ _ _ (heap_setCell_same w g 4 _ _ _ h)
theorem GdAt.end0 (h : GdAt w g T a f G b k) : GdAt (w.setCell ⟨g, 1, none⟩ (.bool false)) g T false f G b k := heap_setCell_same w g 1 _ _ _ h
theorem GdAt.end3 (h : GdAt w g T a f G b k) : GdAt (w.setCell ⟨g, 4, none⟩ (.bool false)) g T a f G false k := heap_setCell_same w g 4 _ _ _ h
end
def isL (n : Int) : Bool := decide (1 ≤ n ∧ n ≤ 65535)
def isT (n : Int) : Bool := decide (0 ≤ n ∧ n ≤ 2147483647)
theorem limit_any (n : Int) (w : World) : Calls Try.prog 89 #[.int .i64 n] w fun e w' => e = .returned (.bool (isL n)) ∧ w = w' := by
  by_cases h1 : 1 ≤ n
  · by_cases h2 : n ≤ 65535
    · rw [show isL n = true by simp [isL, h1, h2]]; go_enter Try.func89, Try.ntmps89; go_wp2; go_ret; exact ⟨rfl, rfl⟩
    · rw [show isL n = false by simp [isL, h2]]; go_enter Try.func89, Try.ntmps89; go_wp2; go_ret; exact ⟨rfl, rfl⟩
  · rw [show isL n = false by simp [isL, h1]]; go_enter Try.func89, Try.ntmps89; go_wp2; go_ret; exact ⟨rfl, rfl⟩
theorem tick_any (n : Int) (w : World) : Calls Try.prog 82 #[.int .i64 n] w fun e w' => e = .returned (.bool (isT n)) ∧ w = w' := by
  by_cases h1 : 0 ≤ n
  · by_cases h2 : n ≤ 2147483647
    · rw [show isT n = true by simp [isT, h1, h2]]; go_enter Try.func82, Try.ntmps82; go_wp2; go_ret; exact ⟨rfl, rfl⟩
    · rw [show isT n = false by simp [isT, h2]]; go_enter Try.func82, Try.ntmps82; go_wp2; go_ret; exact ⟨rfl, rfl⟩
  · rw [show isT n = false by simp [isT, h1]]; go_enter Try.func82, Try.ntmps82; go_wp2; go_ret; exact ⟨rfl, rfl⟩
theorem tick_ok {n : Int} (w : World) (h0 : 0 ≤ n) (h1 : n ≤ 2147483647) : Calls Try.prog 82 #[.int .i64 n] w fun e w' => e = .returned (.bool true) ∧ w = w' := by
  have := tick_any n w
  rw [show isT n = true by simp [isT, h0, h1]] at this
  exact this
section
variable {g : Nat} {w : World} {T f G k : Int} {a b : Bool}
theorem wbegin0 (n : Int) (h : GdAt w g T a f G b k) : Calls Try.prog 83 #[.pointer (some ⟨g, 0, none⟩), .int .i64 n] w fun e w' => e = .returned (.tuple #[]) ∧ GdAt w' g T true n G b k ∧ Onl g w w' := by
  obtain ⟨c0, c1, c2, c3, c4, c5⟩ := h.cells
  have f1 := h.frozen 1
  have f2 := h.frozen 2
  have HX := Lib.hid (And.intro (h.begin0 n) ((Onl.set (g := g) w 1 (.bool true)).trans (Onl.set _ 2 (.int .i64 n))))
  clear h
  go_enter Try.func83, Try.ntmps83
  go_wp2_with fail
  go_end0
  exact ⟨rfl, HX.out.1, HX.out.2⟩
theorem wbegin3 (n : Int) (h : GdAt w g T a f G b k) : Calls Try.prog 83 #[.pointer (some ⟨g, 3, none⟩), .int .i64 n] w fun e w' => e = .returned (.tuple #[]) ∧ GdAt w' g T a f G true n ∧ Onl g w w' := by
  obtain ⟨c0, c1, c2, c3, c4, c5⟩ := h.cells
  have f1 := h.frozen 4
  have f2 := h.frozen 5
  have HX := Lib.hid (And.intro (h.begin3 n) ((Onl.set (g := g) w 4 (.bool true)).trans (Onl.set _ 5 (.int .i64 n))))
  clear h
  go_enter Try.func83, Try.ntmps83
  go_wp2_with fail
  go_end0
  exact ⟨rfl, HX.out.1, HX.out.2⟩
theorem wend0 (h : GdAt w g T a f G b k) : Calls Try.prog 84 #[.pointer (some ⟨g, 0, none⟩)] w fun e w' => e = .returned (.tuple #[]) ∧ GdAt w' g T false f G b k ∧ Onl g w w' := by
  obtain ⟨c0, c1, c2, c3, c4, c5⟩ := h.cells
  have f1 := h.frozen 1
  have HX := Lib.hid (And.intro h.end0 (Onl.set (g := g) w 1 (.bool false)))
  clear h
  go_enter Try.func84, Try.ntmps84
  go_wp2_with fail
  go_end0
  exact ⟨rfl, HX.out.1, HX.out.2⟩
theorem wend3 (h : GdAt w g T a f G b k) : Calls Try.prog 84 #[.pointer (some ⟨g, 3, none⟩)] w fun e w' => e = .returned (.tuple #[]) ∧ GdAt w' g T a f G false k ∧ Onl g w w' := by
  obtain ⟨c0, c1, c2, c3, c4, c5⟩ := h.cells
  have f1 := h.frozen 4
  have HX := Lib.hid (And.intro h.end3 (Onl.set (g := g) w 4 (.bool false)))
  clear h
  go_enter Try.func84, Try.ntmps84
  go_wp2_with fail
  go_end0
  exact ⟨rfl, HX.out.1, HX.out.2⟩
end
/-- The last tick of a wait. -/
def lastE (a : Bool) (f T : Int) : Int := if a then f + T else 9223372036854775807
theorem wlast_cells (w : World) (g o : Nat) (T f : Int) (a : Bool) (c0 : w.cell? ⟨g, o, none⟩ = some (.int .i64 T)) (c1 : w.cell? ⟨g, o + 1, none⟩ = some (.bool a)) (c2 : w.cell? ⟨g, o + 2, none⟩ = some (.int .i64 f)) (h0 : 0 ≤ f + T) (h1 : f + T ≤ 4294967296) :
    Calls Try.prog 94 #[.pointer (some ⟨g, o, none⟩)] w fun e w' => e = .returned (.int .i64 (lastE a f T)) ∧ ∃ m, w' = w.drewN m := by
  have e1 : IntKind.i64.wrap (f + T) = f + T := IntWalk.i64_in _ (by omega)
  clear h0 h1
  cases a with
  | false =>
    rw [show lastE false f T = 9223372036854775807 from rfl]
    go_enter Try.func94, Try.ntmps94
    go_wp2_with fail
    go_ret
    exact ⟨rfl, 0, rfl⟩
  | true =>
    rw [show lastE true f T = f + T from rfl]
    go_enter Try.func94, Try.ntmps94
    go_wp2_with fail
    go_quiet (fail)
    go_wp2_with fail
    go_ret
    exact ⟨rfl, nq, rfl⟩
section
variable {g : Nat} {w : World} {T f G k : Int} {a b : Bool}
theorem wlast0 (h : GdAt w g T a f G b k) (h0 : 0 ≤ f + T) (h1 : f + T ≤ 4294967296) : Calls Try.prog 94 #[.pointer (some ⟨g, 0, none⟩)] w fun e w' => e = .returned (.int .i64 (lastE a f T)) ∧ ∃ m, w' = w.drewN m :=
  wlast_cells w g 0 T f a h.cells.1 h.cells.2.1 h.cells.2.2.1 h0 h1
theorem wlast3 (h : GdAt w g T a f G b k) (h0 : 0 ≤ k + G) (h1 : k + G ≤ 4294967296) : Calls Try.prog 94 #[.pointer (some ⟨g, 3, none⟩)] w fun e w' => e = .returned (.int .i64 (lastE b k G)) ∧ ∃ m, w' = w.drewN m :=
  wlast_cells w g 3 G k b h.cells.2.2.2.1 h.cells.2.2.2.2.1 h.cells.2.2.2.2.2 h0 h1
end
theorem wover_last (w : World) (g o : Nat) (n x : Int) (H : Calls Try.prog 94 #[.pointer (some ⟨g, o, none⟩)] w fun e w' => e = .returned (.int .i64 x) ∧ ∃ m, w' = w.drewN m) :
    Calls Try.prog 90 #[.pointer (some ⟨g, o, none⟩), .int .i64 n] w fun e w' => e = .returned (.bool (decide (x < n))) ∧ ∃ m, w' = w.drewN m := by
  have HL := Lib.hid H
  clear H
  generalize hd : decide (x < n) = d
  have HD := Lib.hid hd
  clear hd
  go_enter Try.func90, Try.ntmps90
  go_wp2_with (go_at_call 94; refine (HL.out).mono ?_; rintro e w2 ⟨rfl, mm, rfl⟩)
  go_ret
  exact ⟨by rw [← HD.out]; rfl, mm, rfl⟩
section
variable {g : Nat} {w : World} {T f G k : Int} {a b : Bool}
theorem wover0 (n : Int) (h : GdAt w g T a f G b k) (h0 : 0 ≤ f + T) (h1 : f + T ≤ 4294967296) : Calls Try.prog 90 #[.pointer (some ⟨g, 0, none⟩), .int .i64 n] w fun e w' => e = .returned (.bool (decide (lastE a f T < n))) ∧ ∃ m, w' = w.drewN m :=
  wover_last w g 0 n _ (wlast0 h h0 h1)
theorem wover3 (n : Int) (h : GdAt w g T a f G b k) (h0 : 0 ≤ k + G) (h1 : k + G ≤ 4294967296) : Calls Try.prog 90 #[.pointer (some ⟨g, 3, none⟩), .int .i64 n] w fun e w' => e = .returned (.bool (decide (lastE b k G < n))) ∧ ∃ m, w' = w.drewN m :=
  wover_last w g 3 n _ (wlast3 h h0 h1)
end
/-- How many ticks there are from n up to x. -/
def betE (n x : Int) : Int := if x ≤ n then 0 else if n < x - 9223372036854775807 then 9223372036854775807 else x - n
end Go.Proofs.Ytllaajkpobpeiaa