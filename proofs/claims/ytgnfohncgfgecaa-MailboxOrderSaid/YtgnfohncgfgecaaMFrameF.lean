/- Less; what checked and Ask answer. -/
import Derived.Test.YtgnfohncgfgecaaMFrameE
namespace Go.Proofs.Ytgnfohncgfgecaa
open Go.RowKit
theorem results_cell_tmp_row {P : Program} {fn : Func} {p u : Tmp} {ty : TypeId} (h : fn.results = #[.cell p ty, .tmp u]) (tmps : Array Value) (w : World) (g : Nat) (t : TypeId) (cs : Array Value) (fr : Nat × Nat) (d : TypeDesc)
    (hp : tmps.getD p undef = .pointer (some ⟨g, 0, none⟩)) (hg : w.heap[g]? = some (.cells cs t fr))
    (hu : P.underlying ty = some d) (hd : (match d with | .struct _ | .array _ _ => true | _ => false) = true) (hi : (P.info? ty).map (·.size) = some cs.size) :
    (results fn tmps).run P w = .ok (.tuple #[.agg cs, tmps.getD u undef]) w := by
  rw [results_cell_tmp h, hp]
  simp [asAddr, run_loadVar_row w g t ty cs fr d hg hu hd hi]

theorem less_any (id n id' n' : Int) (r r' : Bool) (d d' : Nat → Int) (w : World) :
    Calls Try.prog 42 #[.agg #[.int .i64 id, .bool r, .int .i64 n, .int .u8 (d 0), .int .u8 (d 1), .int .u8 (d 2), .int .u8 (d 3), .int .u8 (d 4), .int .u8 (d 5), .int .u8 (d 6), .int .u8 (d 7)], .agg #[.int .i64 id', .bool r', .int .i64 n', .int .u8 (d' 0), .int .u8 (d' 1), .int .u8 (d' 2), .int .u8 (d' 3), .int .u8 (d' 4), .int .u8 (d' 5), .int .u8 (d' 6), .int .u8 (d' 7)]] w fun e w' => e = .returned (.bool (decide (rk id r n d < rk id' r' n' d'))) ∧ Below w.heap.size w w' := by
  have hf : FrAt ((w.alloc (.cells #[.int .i64 id, .bool r, .int .i64 n, .int .u8 (d 0), .int .u8 (d 1), .int .u8 (d 2), .int .u8 (d 3), .int .u8 (d 4), .int .u8 (d 5), .int .u8 (d 6), .int .u8 (d 7)] 30)).alloc (.cells #[.int .i64 id', .bool r', .int .i64 n', .int .u8 (d' 0), .int .u8 (d' 1), .int .u8 (d' 2), .int .u8 (d' 3), .int .u8 (d' 4), .int .u8 (d' 5), .int .u8 (d' 6), .int .u8 (d' 7)] 30)) w.heap.size id r n d := heap_alloc2_old w _ _
  have hg : FrAt ((w.alloc (.cells #[.int .i64 id, .bool r, .int .i64 n, .int .u8 (d 0), .int .u8 (d 1), .int .u8 (d 2), .int .u8 (d 3), .int .u8 (d 4), .int .u8 (d 5), .int .u8 (d 6), .int .u8 (d 7)] 30)).alloc (.cells #[.int .i64 id', .bool r', .int .i64 n', .int .u8 (d' 0), .int .u8 (d' 1), .int .u8 (d' 2), .int .u8 (d' 3), .int .u8 (d' 4), .int .u8 (d' 5), .int .u8 (d' 6), .int .u8 (d' 7)] 30)) (w.heap.size + 1) id' r' n' d' := heap_alloc2_new w _ _
  have hb : Below w.heap.size w ((w.alloc (.cells #[.int .i64 id, .bool r, .int .i64 n, .int .u8 (d 0), .int .u8 (d 1), .int .u8 (d 2), .int .u8 (d 3), .int .u8 (d 4), .int .u8 (d 5), .int .u8 (d 6), .int .u8 (d 7)] 30)).alloc (.cells #[.int .i64 id', .bool r', .int .i64 n', .int .u8 (d' 0), .int .u8 (d' 1), .int .u8 (d' 2), .int .u8 (d' 3), .int .u8 (d' 4), .int .u8 (d' 5), .int .u8 (d' 6), .int .u8 (d' 7)] 30)) := ((Below.refl _ _).alloc (Nat.le_refl _) _).alloc (by simp) _
  have hs : w.heap.size + 1 < ((w.alloc (.cells #[.int .i64 id, .bool r, .int .i64 n, .int .u8 (d 0), .int .u8 (d 1), .int .u8 (d 2), .int .u8 (d 3), .int .u8 (d 4), .int .u8 (d 5), .int .u8 (d 6), .int .u8 (d 7)] 30)).alloc (.cells #[.int .i64 id', .bool r', .int .i64 n', .int .u8 (d' 0), .int .u8 (d' 1), .int .u8 (d' 2), .int .u8 (d' 3), .int .u8 (d' 4), .int .u8 (d' 5), .int .u8 (d' 6), .int .u8 (d' 7)] 30)).heap.size := by simp
  have hra := fun w => rank_any id n r d w
  have hrb := fun w => rank_any id' n' r' d' w
  generalize rk id r n d = x at hra
  generalize rk id' r' n' d' = y at hrb
  have HB := Lib.hid hb
  have HF := Lib.hid hf
  have HG := Lib.hid hg
  have HS := Lib.hid hs
  have HRA := Lib.hid hra
  have HRB := Lib.hid hrb
  clear hb hf hg hs hra hrb
  go_enter Try.func42, Try.ntmps42
  go_wp2_with fail
  generalize (w.alloc (Obj.cells #[Value.int IntKind.i64 id, Value.bool r, Value.int IntKind.i64 n, Value.int IntKind.u8 (d 0), Value.int IntKind.u8 (d 1), Value.int IntKind.u8 (d 2), Value.int IntKind.u8 (d 3), Value.int IntKind.u8 (d 4), Value.int IntKind.u8 (d 5), Value.int IntKind.u8 (d 6), Value.int IntKind.u8 (d 7)] 30)).alloc (Obj.cells #[Value.int IntKind.i64 id', Value.bool r', Value.int IntKind.i64 n', Value.int IntKind.u8 (d' 0), Value.int IntKind.u8 (d' 1), Value.int IntKind.u8 (d' 2), Value.int IntKind.u8 (d' 3), Value.int IntKind.u8 (d' 4), Value.int IntKind.u8 (d' 5), Value.int IntKind.u8 (d' 6), Value.int IntKind.u8 (d' 7)] 30) = w0 at HB HF HG HS
  have hc0 := HF.out.cells
  have hc0' := HG.out.cells
  have k0 : (w0.cell? ⟨w.heap.size, 0, none⟩ = some (.int .i64 id) ∧ w0.cell? ⟨w.heap.size, 1, none⟩ = some (.bool r) ∧ w0.cell? ⟨w.heap.size, 2, none⟩ = some (.int .i64 n) ∧ w0.cell? ⟨w.heap.size, 3, none⟩ = some (.int .u8 (d 0)) ∧ w0.cell? ⟨w.heap.size, 4, none⟩ = some (.int .u8 (d 1)) ∧ w0.cell? ⟨w.heap.size, 5, none⟩ = some (.int .u8 (d 2)) ∧ w0.cell? ⟨w.heap.size, 6, none⟩ = some (.int .u8 (d 3)) ∧ w0.cell? ⟨w.heap.size, 7, none⟩ = some (.int .u8 (d 4)) ∧ w0.cell? ⟨w.heap.size, 8, none⟩ = some (.int .u8 (d 5)) ∧ w0.cell? ⟨w.heap.size, 9, none⟩ = some (.int .u8 (d 6)) ∧ w0.cell? ⟨w.heap.size, 10, none⟩ = some (.int .u8 (d 7))) ∧ (w0.cell? ⟨w.heap.size + 1, 0, none⟩ = some (.int .i64 id') ∧ w0.cell? ⟨w.heap.size + 1, 1, none⟩ = some (.bool r') ∧ w0.cell? ⟨w.heap.size + 1, 2, none⟩ = some (.int .i64 n') ∧ w0.cell? ⟨w.heap.size + 1, 3, none⟩ = some (.int .u8 (d' 0)) ∧ w0.cell? ⟨w.heap.size + 1, 4, none⟩ = some (.int .u8 (d' 1)) ∧ w0.cell? ⟨w.heap.size + 1, 5, none⟩ = some (.int .u8 (d' 2)) ∧ w0.cell? ⟨w.heap.size + 1, 6, none⟩ = some (.int .u8 (d' 3)) ∧ w0.cell? ⟨w.heap.size + 1, 7, none⟩ = some (.int .u8 (d' 4)) ∧ w0.cell? ⟨w.heap.size + 1, 8, none⟩ = some (.int .u8 (d' 5)) ∧ w0.cell? ⟨w.heap.size + 1, 9, none⟩ = some (.int .u8 (d' 6)) ∧ w0.cell? ⟨w.heap.size + 1, 10, none⟩ = some (.int .u8 (d' 7))) := ⟨hc0, hc0'⟩
  have hlt0 : w.heap.size < w0.drew.heap.size := Nat.lt_of_succ_lt HS.out
  have hlt0' : w.heap.size + 1 < w0.drew.heap.size := HS.out
  clear hc0 hc0'
  go_region_held3 (fun w' => (w'.cell? ⟨w.heap.size, 0, none⟩ = some (.int .i64 id) ∧ w'.cell? ⟨w.heap.size, 1, none⟩ = some (.bool r) ∧ w'.cell? ⟨w.heap.size, 2, none⟩ = some (.int .i64 n) ∧ w'.cell? ⟨w.heap.size, 3, none⟩ = some (.int .u8 (d 0)) ∧ w'.cell? ⟨w.heap.size, 4, none⟩ = some (.int .u8 (d 1)) ∧ w'.cell? ⟨w.heap.size, 5, none⟩ = some (.int .u8 (d 2)) ∧ w'.cell? ⟨w.heap.size, 6, none⟩ = some (.int .u8 (d 3)) ∧ w'.cell? ⟨w.heap.size, 7, none⟩ = some (.int .u8 (d 4)) ∧ w'.cell? ⟨w.heap.size, 8, none⟩ = some (.int .u8 (d 5)) ∧ w'.cell? ⟨w.heap.size, 9, none⟩ = some (.int .u8 (d 6)) ∧ w'.cell? ⟨w.heap.size, 10, none⟩ = some (.int .u8 (d 7))) ∧ (w'.cell? ⟨w.heap.size + 1, 0, none⟩ = some (.int .i64 id') ∧ w'.cell? ⟨w.heap.size + 1, 1, none⟩ = some (.bool r') ∧ w'.cell? ⟨w.heap.size + 1, 2, none⟩ = some (.int .i64 n') ∧ w'.cell? ⟨w.heap.size + 1, 3, none⟩ = some (.int .u8 (d' 0)) ∧ w'.cell? ⟨w.heap.size + 1, 4, none⟩ = some (.int .u8 (d' 1)) ∧ w'.cell? ⟨w.heap.size + 1, 5, none⟩ = some (.int .u8 (d' 2)) ∧ w'.cell? ⟨w.heap.size + 1, 6, none⟩ = some (.int .u8 (d' 3)) ∧ w'.cell? ⟨w.heap.size + 1, 7, none⟩ = some (.int .u8 (d' 4)) ∧ w'.cell? ⟨w.heap.size + 1, 8, none⟩ = some (.int .u8 (d' 5)) ∧ w'.cell? ⟨w.heap.size + 1, 9, none⟩ = some (.int .u8 (d' 6)) ∧ w'.cell? ⟨w.heap.size + 1, 10, none⟩ = some (.int .u8 (d' 7))))
    (first | exact k0 | exact k1 | exact k2)
    (first
      | (go_at_call 44
         (with_reducible refine (HRA.out w0.drew).mono ?_)
         rintro e w1 ⟨rfl, hb1⟩
         have hf1 := FrAt.below (w := w0.drew) HF.out hb1 hlt0
         have hg1 := FrAt.below (w := w0.drew) HG.out hb1 hlt0'
         have k1 := And.intro hf1.cells hg1.cells
         have hl1 := Nat.lt_of_lt_of_le hlt0 hb1.size
         have hl1' := Nat.lt_of_lt_of_le hlt0' hb1.size
         have hbw1 := HB.out.drew.trans (hb1.mono HB.out.size))
      | (go_at_call 44
         (with_reducible refine (HRB.out w1).mono ?_)
         rintro e w2 ⟨rfl, hb2⟩
         have hf2 := hf1.below hb2 hl1
         have hg2 := hg1.below hb2 hl1'
         have k2 := And.intro hf2.cells hg2.cells
         have hbw2 := hbw1.trans (hb2.mono hbw1.size)))
  clear k0 k1 k2 hf1 hg1 hf2 hg2
  go_wp2_with fail
  all_goals exact bodyPost_ret (results_tmp rfl _ _ _) rfl ⟨rfl, hbw2⟩
end Go.Proofs.Ytgnfohncgfgecaa