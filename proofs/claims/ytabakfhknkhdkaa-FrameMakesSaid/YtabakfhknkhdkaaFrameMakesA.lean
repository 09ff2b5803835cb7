/- FrameMakes. -/
import Derived.Test.YtabakfhknkhdkaaFrameS
namespace Go.Proofs.Ytabakfhknkhdkaa.frameMakes
open Go.RowKit Go.Proofs.Ytabakfhknkhdkaa

theorem long {w : World} (i0 n0 id n : Int) (r0 : Bool) (d0 : Nat → Int) (A : Option Addr) (m c : Nat) (l : List Int) (h : Byt w w.heap.size A m c l) (hm : 20 < m) :
    Calls Try.prog 3 #[.agg #[.int .i64 i0, .bool r0, .int .i64 n0, .int .u8 (d0 0), .int .u8 (d0 1), .int .u8 (d0 2), .int .u8 (d0 3), .int .u8 (d0 4), .int .u8 (d0 5), .int .u8 (d0 6), .int .u8 (d0 7)], .int .i64 id, .int .i64 n, .slice A m c] w fun e w' => e = .returned (.bool true) ∧ Below w.heap.size w w' := by
  have hmx := h.max
  have hcp := h.cap
  simp only [maxLen] at hmx
  have hb : Below w.heap.size w (w.alloc (.cells #[.int .i64 i0, .bool r0, .int .i64 n0, .int .u8 (d0 0), .int .u8 (d0 1), .int .u8 (d0 2), .int .u8 (d0 3), .int .u8 (d0 4), .int .u8 (d0 5), .int .u8 (d0 6), .int .u8 (d0 7)] 24)) := (Below.refl _ _).alloc (Nat.le_refl _) _
  have HB := Lib.hid hb
  clear hb h
  go_enter Try.func3, Try.ntmps3
  go_wp2_with (go_at_call 7; refine (live4_any _).mono ?_; rintro e w1 ⟨rfl, hb1⟩; have hbw := HB.out.trans (hb1.mono HB.out.size))
  all_goals first | (exfalso; omega) | exact bodyPost_ret (results_tmp rfl _ _ _) rfl ⟨rfl, hbw⟩
theorem new_both (id : Int) (m c : Nat) (A : Option Addr) (l : List Int) : ∃ (ix nx e : Int) (rx : Bool) (dx : Nat → Int),
    (∀ w : World, Byt w w.heap.size A m c l → Calls Try.prog 8 #[.int .i64 id, .slice A m c] w fun q w' => q = .returned (.tuple #[.agg #[.int .i64 ix, .bool rx, .int .i64 nx, .int .u8 (dx 0), .int .u8 (dx 1), .int .u8 (dx 2), .int .u8 (dx 3), .int .u8 (dx 4), .int .u8 (dx 5), .int .u8 (dx 6), .int .u8 (dx 7)], .int .i64 e]) ∧ Below w.heap.size w w') ∧
    (∀ w : World, Byt w w.heap.size A m c l → Calls Try.prog 9 #[.int .i64 id, .slice A m c] w fun q w' => q = .returned (.tuple #[.agg #[.int .i64 ix, .bool rx, .int .i64 nx, .int .u8 (dx 0), .int .u8 (dx 1), .int .u8 (dx 2), .int .u8 (dx 3), .int .u8 (dx 4), .int .u8 (dx 5), .int .u8 (dx 6), .int .u8 (dx 7)], .int .i64 e]) ∧ Below w.heap.size w w') := by
  by_cases hc : chk id false m (dOf l) = 0
  · exact ⟨id, m, 0, false, dOf l, fun w h => new_ok id A m c l w h hc, fun w h => dnew_ok id A m c l w h hc⟩
  · exact ⟨0, 0, chk id false m (dOf l), false, fun _ => 0, fun w h => new_no id A m c l w h hc, fun w h => dnew_no id A m c l w h hc⟩
theorem ask_both (id n : Int) : ∃ (iy ny e : Int) (ry : Bool) (dy : Nat → Int), e = chk id true n (fun _ => 0) ∧
    (∀ w : World, Calls Try.prog 14 #[.int .i64 id, .int .i64 n] w fun q w' => q = .returned (.tuple #[.agg #[.int .i64 iy, .bool ry, .int .i64 ny, .int .u8 (dy 0), .int .u8 (dy 1), .int .u8 (dy 2), .int .u8 (dy 3), .int .u8 (dy 4), .int .u8 (dy 5), .int .u8 (dy 6), .int .u8 (dy 7)], .int .i64 e]) ∧ Below w.heap.size w w') ∧
    (e = 0 → iy = id ∧ ny = n ∧ ry = true ∧ dy = fun _ => 0) ∧ (¬ e = 0 → iy = 0 ∧ ny = 0 ∧ ry = false ∧ dy = fun _ => 0) := by
  by_cases hc : chk id true n (fun _ => 0) = 0
  · exact ⟨id, n, 0, true, fun _ => 0, hc.symm, fun w => ask_ok id n w hc, fun _ => ⟨rfl, rfl, rfl, rfl⟩, fun h => absurd rfl h⟩
  · exact ⟨0, 0, _, false, fun _ => 0, rfl, fun w => ask_no id n w hc, fun h => absurd h hc, fun _ => ⟨rfl, rfl, rfl, rfl⟩⟩
/-- The three frames that are held against each other. -/
structure Mst (i0 n0 ix nx : Int) (r0 rx : Bool) (d0 dx : Nat → Int) (w : World) (gx gy : Nat) (wr : World) : Prop where
  f : FrAt wr w.heap.size i0 r0 n0 d0
  x : FrAt wr gx ix rx nx dx
  y : FrAt wr gy ix rx nx dx
  bel : Below w.heap.size w wr
section
variable {i0 n0 ix nx : Int} {r0 rx : Bool} {d0 dx : Nat → Int} {w wr w' : World} {gx gy : Nat}
theorem Mst.step (h : Mst i0 n0 ix nx r0 rx d0 dx w gx gy wr) (hb : Below wr.heap.size wr w') : Mst i0 n0 ix nx r0 rx d0 dx w gx gy w' :=
  ⟨h.f.below hb h.f.lt, h.x.below hb h.x.lt, h.y.below hb h.y.lt, h.bel.trans (hb.mono h.bel.size)⟩
theorem Mst.cells (h : Mst i0 n0 ix nx r0 rx d0 dx w gx gy wr) : (wr.cell? ⟨w.heap.size, 0, none⟩ = some (.int .i64 i0) ∧ wr.cell? ⟨w.heap.size, 1, none⟩ = some (.bool r0) ∧ wr.cell? ⟨w.heap.size, 2, none⟩ = some (.int .i64 n0) ∧ wr.cell? ⟨w.heap.size, 3, none⟩ = some (.int .u8 (d0 0)) ∧ wr.cell? ⟨w.heap.size, 4, none⟩ = some (.int .u8 (d0 1)) ∧ wr.cell? ⟨w.heap.size, 5, none⟩ = some (.int .u8 (d0 2)) ∧ wr.cell? ⟨w.heap.size, 6, none⟩ = some (.int .u8 (d0 3)) ∧ wr.cell? ⟨w.heap.size, 7, none⟩ = some (.int .u8 (d0 4)) ∧ wr.cell? ⟨w.heap.size, 8, none⟩ = some (.int .u8 (d0 5)) ∧ wr.cell? ⟨w.heap.size, 9, none⟩ = some (.int .u8 (d0 6)) ∧ wr.cell? ⟨w.heap.size, 10, none⟩ = some (.int .u8 (d0 7))) ∧ (wr.cell? ⟨gx, 0, none⟩ = some (.int .i64 ix) ∧ wr.cell? ⟨gx, 1, none⟩ = some (.bool rx) ∧ wr.cell? ⟨gx, 2, none⟩ = some (.int .i64 nx) ∧ wr.cell? ⟨gx, 3, none⟩ = some (.int .u8 (dx 0)) ∧ wr.cell? ⟨gx, 4, none⟩ = some (.int .u8 (dx 1)) ∧ wr.cell? ⟨gx, 5, none⟩ = some (.int .u8 (dx 2)) ∧ wr.cell? ⟨gx, 6, none⟩ = some (.int .u8 (dx 3)) ∧ wr.cell? ⟨gx, 7, none⟩ = some (.int .u8 (dx 4)) ∧ wr.cell? ⟨gx, 8, none⟩ = some (.int .u8 (dx 5)) ∧ wr.cell? ⟨gx, 9, none⟩ = some (.int .u8 (dx 6)) ∧ wr.cell? ⟨gx, 10, none⟩ = some (.int .u8 (dx 7))) ∧ (wr.cell? ⟨gy, 0, none⟩ = some (.int .i64 ix) ∧ wr.cell? ⟨gy, 1, none⟩ = some (.bool rx) ∧ wr.cell? ⟨gy, 2, none⟩ = some (.int .i64 nx) ∧ wr.cell? ⟨gy, 3, none⟩ = some (.int .u8 (dx 0)) ∧ wr.cell? ⟨gy, 4, none⟩ = some (.int .u8 (dx 1)) ∧ wr.cell? ⟨gy, 5, none⟩ = some (.int .u8 (dx 2)) ∧ wr.cell? ⟨gy, 6, none⟩ = some (.int .u8 (dx 3)) ∧ wr.cell? ⟨gy, 7, none⟩ = some (.int .u8 (dx 4)) ∧ wr.cell? ⟨gy, 8, none⟩ = some (.int .u8 (dx 5)) ∧ wr.cell? ⟨gy, 9, none⟩ = some (.int .u8 (dx 6)) ∧ wr.cell? ⟨gy, 10, none⟩ = some (.int .u8 (dx 7))) := ⟨h.f.cells, h.x.cells, h.y.cells⟩
end
end Go.Proofs.Ytabakfhknkhdkaa.frameMakes
