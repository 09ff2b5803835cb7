/- Best and Take. -/
import Derived.Test.YtgnfohncgfgecaaMe
namespace Go.Proofs.Ytgnfohncgfgecaa
open Go.RowKit Go.Shelf

theorem first_cells {w : World} {base g n cap : Nat} {ls : List Ltr} {x : Ltr} (h : w.ownsRow base 66 12 (.slice (some ⟨g, 0, none⟩) n cap) n (flat (x :: ls))) :
    w.cell? ⟨g, 0, none⟩ = some (.int .i64 x.id) ∧ w.cell? ⟨g, 1, none⟩ = some (.bool x.r) ∧ w.cell? ⟨g, 2, none⟩ = some (.int .i64 x.n) ∧ w.cell? ⟨g, 3, none⟩ = some (.int .u8 (x.d 0)) ∧ w.cell? ⟨g, 4, none⟩ = some (.int .u8 (x.d 1)) ∧ w.cell? ⟨g, 5, none⟩ = some (.int .u8 (x.d 2)) ∧ w.cell? ⟨g, 6, none⟩ = some (.int .u8 (x.d 3)) ∧ w.cell? ⟨g, 7, none⟩ = some (.int .u8 (x.d 4)) ∧ w.cell? ⟨g, 8, none⟩ = some (.int .u8 (x.d 5)) ∧ w.cell? ⟨g, 9, none⟩ = some (.int .u8 (x.d 6)) ∧ w.cell? ⟨g, 10, none⟩ = some (.int .u8 (x.d 7)) := by
  obtain ⟨c0, c1, c2, c3, c4, c5, c6, c7, c8, c9, c10, c11⟩ := ltr_cells h (i := 0) (x := x) rfl
  simp only [Nat.zero_mul, Nat.zero_add] at c0 c1 c2 c3 c4 c5 c6 c7 c8 c9 c10 c11
  exact ⟨c0, c1, c2, c3, c4, c5, c6, c7, c8, c9, c10⟩
set_option maxRecDepth 100000 in
set_option maxHeartbeats 1000000 in
theorem best_none (w : World) (base g : Nat) (lost : Int) (v : Value) (h : Bx w base g [] lost v) :
    Calls Try.prog 20 #[.pointer (some ⟨g, 0, none⟩)] w fun e w' => e = .returned (.tuple #[.agg #[.int .i64 0, .bool false, .int .i64 0, .int .u8 0, .int .u8 0, .int .u8 0, .int .u8 0, .int .u8 0, .int .u8 0, .int .u8 0, .int .u8 0], .bool false]) ∧ Below w.heap.size w w' := by
  obtain ⟨a, c, rfl⟩ := own_slice h.row
  simp only [List.length_nil] at h
  obtain ⟨c0, _⟩ := h.cells
  have hgl := h.lt
  have hz : (w.alloc (.cells #[.int .i64 0, .bool false, .int .i64 0, .int .u8 0, .int .u8 0, .int .u8 0, .int .u8 0, .int .u8 0, .int .u8 0, .int .u8 0, .int .u8 0] 30)).heap[w.heap.size]? = some (.cells #[.int .i64 0, .bool false, .int .i64 0, .int .u8 0, .int .u8 0, .int .u8 0, .int .u8 0, .int .u8 0, .int .u8 0, .int .u8 0, .int .u8 0] 30 (0, 0)) := heap_alloc_new w _
  have HZ := Lib.hid hz
  clear h hz
  go_enter Try.func20, Try.ntmps20
  go_wp2_with fail
  exact bodyPost_ret (results_cell_tmp_row rfl _ _ w.heap.size _ _ _ _ rfl HZ.out Try.underlying30 rfl info_frame) rfl ⟨rfl, (Below.refl _ _).alloc (Nat.le_refl _) _⟩
set_option maxRecDepth 100000 in
set_option maxHeartbeats 1000000 in
theorem best_some (w : World) (base g : Nat) (x : Ltr) (ls : List Ltr) (lost : Int) (v : Value) (h : Bx w base g (x :: ls) lost v) :
    Calls Try.prog 20 #[.pointer (some ⟨g, 0, none⟩)] w fun e w' => e = .returned (.tuple #[.agg #[.int .i64 x.id, .bool x.r, .int .i64 x.n, .int .u8 (x.d 0), .int .u8 (x.d 1), .int .u8 (x.d 2), .int .u8 (x.d 3), .int .u8 (x.d 4), .int .u8 (x.d 5), .int .u8 (x.d 6), .int .u8 (x.d 7)], .bool true]) ∧ Below w.heap.size w w' := by
  obtain ⟨b, cap, cur, rfl, hbb, _, hnc, hm, _⟩ := own_some h.row (by simp)
  simp only [maxLen] at hm
  simp only [List.length_cons] at h hnc
  obtain ⟨c0, _⟩ := h.cells
  have hgl := h.lt
  have hbl := (h.row.lt b rfl).2
  have hl0 : (((ls.length + 1 : Nat) : Int) == 0) = false := by simp; omega
  have hl1 : (0 : Int) < ((ls.length + 1 : Nat) : Int) := by omega
  obtain ⟨d0, d1, d2, d3, d4, d5, d6, d7, d8, d9, d10⟩ := first_cells (by simpa using h.row)
  have hz : (w.alloc (.cells #[.int .i64 x.id, .bool x.r, .int .i64 x.n, .int .u8 (x.d 0), .int .u8 (x.d 1), .int .u8 (x.d 2), .int .u8 (x.d 3), .int .u8 (x.d 4), .int .u8 (x.d 5), .int .u8 (x.d 6), .int .u8 (x.d 7)] 30)).heap[w.heap.size]? = some (.cells #[.int .i64 x.id, .bool x.r, .int .i64 x.n, .int .u8 (x.d 0), .int .u8 (x.d 1), .int .u8 (x.d 2), .int .u8 (x.d 3), .int .u8 (x.d 4), .int .u8 (x.d 5), .int .u8 (x.d 6), .int .u8 (x.d 7)] 30 (0, 0)) := heap_alloc_new w _
  have HZ := Lib.hid hz
  clear h hz
  generalize ls.length = N at *
  go_enter Try.func20, Try.ntmps20
  go_wp2_with fail
  exact bodyPost_ret (results_cell_tmp_row rfl _ _ w.heap.size _ _ _ _ rfl HZ.out Try.underlying30 rfl info_frame) rfl ⟨rfl, (Below.refl _ _).alloc (Nat.le_refl _) _⟩
theorem lost_any (w : World) (base g : Nat) (ls : List Ltr) (lost : Int) (v : Value) (h : Bx w base g ls lost v) :
    Calls Try.prog 23 #[.pointer (some ⟨g, 0, none⟩)] w fun e w' => e = .returned (.int .i64 lost) ∧ w = w' := by
  obtain ⟨_, c1⟩ := h.cells
  clear h
  go_enter Try.func23, Try.ntmps23
  go_wp2_with fail
  go_ret
  exact ⟨rfl, rfl⟩
end Go.Proofs.Ytgnfohncgfgecaa
