/- guard: Left and Fork; the document's guard. -/
import Derived.Test.YtllaajkpobpeiaaOZb
import Derived.Laws.CopyOwn
namespace Go.Proofs.Ytllaajkpobpeiaa
open Go.RowKit
set_option linter.unusedSimpArgs false
set_option linter.unusedVariables false
section
variable {g : Nat} {w : World} {T f G k : Int} {a b : Bool}
theorem fork_any (h : GdAt w g T a f G b k) : Calls Try.prog 87 #[.pointer (some ⟨g, 0, none⟩)] w fun e w' => ∃ q, w.heap.size ≤ q ∧ e = .returned (.pointer (some ⟨q, 0, none⟩)) ∧ GdAt w' q T a f G b k ∧ Below w.heap.size w w' := by
  obtain ⟨c0, c1, c2, c3, c4, c5⟩ := h.cells
  have HX := Lib.hid (show GdAt (w.alloc (.cells #[.int .i64 T, .bool a, .int .i64 f, .int .i64 G, .bool b, .int .i64 k] 136)) w.heap.size T a f G b k from heap_alloc_new w _)
  have HB := Lib.hid ((Below.refl w.heap.size w).alloc (Nat.le_refl _) (.cells #[.int .i64 T, .bool a, .int .i64 f, .int .i64 G, .bool b, .int .i64 k] 136))
  clear h
  go_enter Try.func87, Try.ntmps87
  go_wp2_with fail
  go_ret
  exact ⟨w.heap.size, Nat.le_refl _, rfl, HX.out, HB.out⟩
end
/-! ### The document's guard -/
def RdAt (w : World) (D : Nat) (T G S F : Int) : Prop := w.heap[D]? = some (.cells #[.int .i64 T, .int .i64 G, .int .i64 S, .int .i64 F] 68 (0, 0))
theorem info_rd : (Try.prog.info? 68).map (·.size) = some 4 := by kernel_rfl
theorem one_rd (T G S F : Int) : (#[.int .i64 T, .int .i64 G, .int .i64 S, .int .i64 F] : Array Value).all (·.oneCell') = true := by simp [Value.oneCell']
section
variable {w w' : World} {D g : Nat} {T G S F : Int}
theorem RdAt.lt (h : RdAt w D T G S F) : D < w.heap.size := (Array.getElem?_eq_some_iff.1 h).1
theorem RdAt.cells (h : RdAt w D T G S F) : w.cell? ⟨D, 0, none⟩ = some (.int .i64 T) ∧ w.cell? ⟨D, 1, none⟩ = some (.int .i64 G) ∧ w.cell? ⟨D, 2, none⟩ = some (.int .i64 S) ∧ w.cell? ⟨D, 3, none⟩ = some (.int .i64 F) :=
  ⟨by rw [cell_of_row _ _ _ _ _ _ h]; rfl, by rw [cell_of_row _ _ _ _ _ _ h]; rfl, by rw [cell_of_row _ _ _ _ _ _ h]; rfl, by rw [cell_of_row _ _ _ _ _ _ h]; rfl⟩
theorem RdAt.frozen (h : RdAt w D T G S F) (i : Nat) : w.frozen? ⟨D, i, none⟩ = false := frozen_of_row _ _ _ _ _ h
theorem RdAt.below (h : RdAt w D T G S F) (hb : Below w.heap.size w w') : RdAt w' D T G S F := (hb.block D h.lt).trans h
theorem RdAt.onl (h : RdAt w D T G S F) (ho : Onl g w w') (hn : ¬ D = g) : RdAt w' D T G S F := (ho.oth D h.lt hn).trans h
theorem RdAt.row (h : RdAt w D T G S F) (T' G' S' F' : Int) : RdAt (w.setRow D #[.int .i64 T', .int .i64 G', .int .i64 S', .int .i64 F']) D T' G' S' F' := setRow_heap _ _ _ _ _ (0, 0) h
theorem RdAt.first (h : RdAt w D T G S F) (n : Int) : RdAt (w.setCell ⟨D, 3, none⟩ (.int .i64 n)) D T G S n := heap_setCell_same w D 3 _ _ _ h
theorem onl_row (cs : Array Value) (hD : RdAt w D T G S F) : Onl D w (w.setRow D cs) := ⟨below_setRow (Below.refl _ w) (Nat.le_refl _) cs, fun k _ hn => setRow_other w D k cs hn⟩
end
def wkS (S n : Int) : Int := if 0 ≤ S then S else n
def hfF (S F n : Int) : Int := if 0 ≤ S then n else F
def whS (S n : Int) : Int := if 0 ≤ S then n else S
def whF (S F : Int) : Int := if 0 ≤ S then -1 else F
def rcE (T G S F n : Int) : Int := if S < 0 then 0 else if S < n - T then 4 else if 0 ≤ F ∧ F < n - G then 5 else 0
theorem rnew_any (T G : Int) (w : World) : Calls Try.prog 54 #[.int .i64 T, .int .i64 G] w fun e w' => e = .returned (.agg #[.int .i64 T, .int .i64 G, .int .i64 (-1), .int .i64 (-1)]) ∧ Below w.heap.size w w' := by
  go_enter Try.func54, Try.ntmps54
  go_wp2_with fail
  exact bodyPost_ret (results_cell_row rfl _ _ w.heap.size _ _ _ _ rfl (heap_alloc_new w _) Try.underlying68 rfl info_rd) rfl ⟨rfl, by go_grown⟩
theorem rwake_no (T G S F n : Int) (w : World) (h : 0 ≤ S) : Calls Try.prog 53 #[.agg #[.int .i64 T, .int .i64 G, .int .i64 S, .int .i64 F], .int .i64 n] w fun e w' => e = .returned (.tuple #[.agg #[.int .i64 T, .int .i64 G, .int .i64 S, .int .i64 F], .bool false]) ∧ Below w.heap.size w w' := by
  go_enter Try.func53, Try.ntmps53
  go_wp2_with fail
  exact bodyPost_ret (results_cell_tmp_row rfl _ _ (w.heap.size + 1) _ _ _ _ rfl (heap_alloc2_new w _ _) Try.underlying68 rfl info_rd) rfl ⟨rfl, by go_grown⟩
theorem rwake_yes (T G S F n : Int) (w : World) (h : S < 0) : Calls Try.prog 53 #[.agg #[.int .i64 T, .int .i64 G, .int .i64 S, .int .i64 F], .int .i64 n] w fun e w' => e = .returned (.tuple #[.agg #[.int .i64 T, .int .i64 G, .int .i64 n, .int .i64 F], .bool true]) ∧ Below w.heap.size w w' := by
  have h0 : ¬ 0 ≤ S := by omega
  go_enter Try.func53, Try.ntmps53
  go_wp2_with fail
  exact bodyPost_ret (results_cell_tmp_row rfl _ _ (w.heap.size + 1) _ _ _ _ rfl (heap_alloc2_new w _ _) Try.underlying68 rfl info_rd) rfl ⟨rfl, by go_grown⟩
theorem rhalf_no (T G S F n : Int) (w : World) (h : S < 0) : Calls Try.prog 60 #[.agg #[.int .i64 T, .int .i64 G, .int .i64 S, .int .i64 F], .int .i64 n] w fun e w' => e = .returned (.agg #[.int .i64 T, .int .i64 G, .int .i64 S, .int .i64 F]) ∧ Below w.heap.size w w' := by
  have h0 : ¬ 0 ≤ S := by omega
  go_enter Try.func60, Try.ntmps60
  go_wp2_with fail
  exact bodyPost_ret (results_cell_row rfl _ _ (w.heap.size + 1) _ _ _ _ rfl (heap_alloc2_new w _ _) Try.underlying68 rfl info_rd) rfl ⟨rfl, by go_grown⟩
theorem rhalf_yes (T G S F n : Int) (w : World) (h : 0 ≤ S) : Calls Try.prog 60 #[.agg #[.int .i64 T, .int .i64 G, .int .i64 S, .int .i64 F], .int .i64 n] w fun e w' => e = .returned (.agg #[.int .i64 T, .int .i64 G, .int .i64 S, .int .i64 n]) ∧ Below w.heap.size w w' := by
  go_enter Try.func60, Try.ntmps60
  go_wp2_with fail
  exact bodyPost_ret (results_cell_row rfl _ _ (w.heap.size + 1) _ _ _ _ rfl (heap_alloc2_new w _ _) Try.underlying68 rfl info_rd) rfl ⟨rfl, by go_grown⟩
theorem rwhole_no (T G S F n : Int) (w : World) (h : S < 0) : Calls Try.prog 61 #[.agg #[.int .i64 T, .int .i64 G, .int .i64 S, .int .i64 F], .int .i64 n] w fun e w' => e = .returned (.agg #[.int .i64 T, .int .i64 G, .int .i64 S, .int .i64 F]) ∧ Below w.heap.size w w' := by
  have h0 : ¬ 0 ≤ S := by omega
  go_enter Try.func61, Try.ntmps61
  go_wp2_with fail
  exact bodyPost_ret (results_cell_row rfl _ _ (w.heap.size + 1) _ _ _ _ rfl (heap_alloc2_new w _ _) Try.underlying68 rfl info_rd) rfl ⟨rfl, by go_grown⟩
theorem rwhole_yes (T G S F n : Int) (w : World) (h : 0 ≤ S) : Calls Try.prog 61 #[.agg #[.int .i64 T, .int .i64 G, .int .i64 S, .int .i64 F], .int .i64 n] w fun e w' => e = .returned (.agg #[.int .i64 T, .int .i64 G, .int .i64 n, .int .i64 (-1)]) ∧ Below w.heap.size w w' := by
  go_enter Try.func61, Try.ntmps61
  go_wp2_with fail
  exact bodyPost_ret (results_cell_row rfl _ _ (w.heap.size + 1) _ _ _ _ rfl (heap_alloc2_new w _ _) Try.underlying68 rfl info_rd) rfl ⟨rfl, by go_grown⟩
set_option maxHeartbeats 1000000 in
theorem rcheck_any (T G S F n : Int) (w : World) (hT : 0 ≤ T) (hT2 : T ≤ 65535) (hG : 0 ≤ G) (hG2 : G ≤ 65535) (hn : 0 ≤ n) (hn2 : n ≤ 2147483647) : Calls Try.prog 55 #[.agg #[.int .i64 T, .int .i64 G, .int .i64 S, .int .i64 F], .int .i64 n] w fun e w' => e = .returned (.int .i64 (rcE T G S F n)) ∧ Below w.heap.size w w' := by
  have e1 : IntKind.i64.wrap (n - T) = n - T := IntWalk.i64_in _ (by omega)
  have e2 : IntKind.i64.wrap (n - G) = n - G := IntWalk.i64_in _ (by omega)
  clear hT hT2 hG hG2 hn hn2
  by_cases h1 : S < 0
  · rw [show rcE T G S F n = 0 from if_pos h1]
    go_enter Try.func55, Try.ntmps55
    go_wp2_with fail
    go_ret
    exact ⟨rfl, by go_grown⟩
  · by_cases h2 : S < n - T
    · rw [show rcE T G S F n = 4 from (if_neg h1).trans (if_pos h2)]
      go_enter Try.func55, Try.ntmps55
      go_wp2_with fail
      go_ret
      exact ⟨rfl, by go_grown⟩
    · by_cases h3 : 0 ≤ F
      · by_cases h4 : F < n - G
        · rw [show rcE T G S F n = 5 from (if_neg h1).trans ((if_neg h2).trans (if_pos ⟨h3, h4⟩))]
          go_enter Try.func55, Try.ntmps55
          go_wp2_with fail
          go_ret
          exact ⟨rfl, by go_grown⟩
        · rw [show rcE T G S F n = 0 from (if_neg h1).trans ((if_neg h2).trans (if_neg (fun h => h4 h.2)))]
          go_enter Try.func55, Try.ntmps55
          go_wp2_with fail
          go_ret
          exact ⟨rfl, by go_grown⟩
      · rw [show rcE T G S F n = 0 from (if_neg h1).trans ((if_neg h2).trans (if_neg (fun h => h3 h.1)))]
        go_enter Try.func55, Try.ntmps55
        go_wp2_with fail
        go_ret
        exact ⟨rfl, by go_grown⟩
end Go.Proofs.Ytllaajkpobpeiaa