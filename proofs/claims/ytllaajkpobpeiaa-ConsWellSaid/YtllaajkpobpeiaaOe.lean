/- prod: a maker in memory, and its plain calls. -/
import Derived.Test.YtllaajkpobpeiaaOc
import Derived.Test.YtllaajkpobpeiaaOd
import Derived.Test.YtllaajkpobpeiaaOJRl
import Derived.Deep.QuietTactic
import Derived.BigQuiet
namespace Go.Proofs.Ytllaajkpobpeiaa
open Go.RowKit
set_option linter.unusedSimpArgs false
set_option linter.unusedVariables false

def c0X : ChV := ⟨0, 0, 0, 0, 0, 0, fun _ => ⟨0, 0, 0⟩⟩
/-- A maker's cells. -/
def mkA (b : Bool) (x : ChV) (t n : Int) : Array Value := #[.bool b, .int .i64 x.dir, .int .i64 x.time, .int .i64 x.gap, .int .i64 x.plain, .int .i64 x.turned, .int .i64 x.n, .int .i64 (x.s 0).i, .int .i64 (x.s 0).j, .int .i64 (x.s 0).n, .int .i64 (x.s 1).i, .int .i64 (x.s 1).j, .int .i64 (x.s 1).n, .int .i64 (x.s 2).i, .int .i64 (x.s 2).j, .int .i64 (x.s 2).n, .int .i64 (x.s 3).i, .int .i64 (x.s 3).j, .int .i64 (x.s 3).n, .int .i64 (x.s 4).i, .int .i64 (x.s 4).j, .int .i64 (x.s 4).n, .int .i64 (x.s 5).i, .int .i64 (x.s 5).j, .int .i64 (x.s 5).n, .int .i64 (x.s 6).i, .int .i64 (x.s 6).j, .int .i64 (x.s 6).n, .int .i64 (x.s 7).i, .int .i64 (x.s 7).j, .int .i64 (x.s 7).n, .int .i64 t, .int .i64 n]
theorem mkA_size (b : Bool) (x : ChV) (t n : Int) : (mkA b x t n).size = 33 := rfl
theorem mkA_one (b : Bool) (x : ChV) (t n : Int) : (mkA b x t n).all (·.oneCell') = true := by simp [mkA, Value.oneCell']
theorem info_mk : (Try.prog.info? 100).map (·.size) = some 33 := by kernel_rfl
def MkAt (w : World) (g : Nat) (b : Bool) (x : ChV) (t n : Int) : Prop := w.heap[g]? = some (.cells (mkA b x t n) 100 (0, 0))
section
variable {w w' : World} {g : Nat} {b : Bool} {x : ChV} {t n : Int}
theorem MkAt.lt (h : MkAt w g b x t n) : g < w.heap.size := (Array.getElem?_eq_some_iff.1 h).1
theorem MkAt.below (h : MkAt w g b x t n) (hb : Below w.heap.size w w') : MkAt w' g b x t n := (hb.block _ h.lt).trans h
theorem MkAt.onl (h : MkAt w g b x t n) {q : Nat} (ho : Onl q w w') (hn : ¬ g = q) : MkAt w' g b x t n := (ho.oth g h.lt hn).trans h
theorem MkAt.cells (h : MkAt w g b x t n) : w.cell? ⟨g, 0, none⟩ = some (.bool b) ∧ w.cell? ⟨g, 2, none⟩ = some (.int .i64 x.time) ∧ w.cell? ⟨g, 31, none⟩ = some (.int .i64 t) ∧ w.cell? ⟨g, 32, none⟩ = some (.int .i64 n) := by
  refine ⟨?_, ?_, ?_, ?_⟩ <;> (rw [cell_of_row _ _ _ _ _ _ h]; rfl)
theorem mkA_mid : ∀ (j : Nat) (v : Value), (chA x).toList[j]? = some v → (mkA b x t n)[1 + j]? = some v := by
  intro j v hv
  have : j < 30 := (List.getElem?_eq_some_iff.1 hv).1
  rcases j with _|_|_|_|_|_|_|_|_|_|_|_|_|_|_|_|_|_|_|_|_|_|_|_|_|_|_|_|_|_|j
  all_goals first | exact hv | omega
theorem MkAt.mid (h : MkAt w g b x t n) : w.rangeAt g 1 (chA x).toList := fun j v hv => by
  rw [cell_of_row _ _ _ _ _ _ h]
  exact mkA_mid j v hv
theorem MkAt.row (h : MkAt w g b x t n) (b' : Bool) (x' : ChV) (t' n' : Int) : MkAt (w.setRow g (mkA b' x' t' n')) g b' x' t' n' := setRow_heap _ _ _ _ _ (0, 0) h
theorem onl_mk (h : MkAt w g b x t n) (cs : Array Value) : Onl g w (w.setRow g cs) := ⟨below_setRow (Below.refl _ w) (Nat.le_refl _) cs, fun k _ hn => setRow_other w g k cs hn⟩
end

/-! ### A nil maker -/
theorem step_nil (now : Int) (on : Bool) (CX : Array Value) (B : Value) (w : World) : Calls Try.prog 17 #[.pointer none, .int .i64 now, .bool on, .agg CX, B] w fun e w' => e = .returned (.slice none 0 0) ∧ Below w.heap.size w w' := by
  have HB := Lib.hid ((Below.refl w.heap.size w).alloc (Nat.le_refl _) (.cells CX 29))
  go_enter Try.func17, Try.ntmps17
  go_wp2_with fail
  go_ret
  exact ⟨rfl, HB.out⟩
theorem sent_nil (w : World) : Calls Try.prog 18 #[.pointer none] w fun e w' => e = .returned (.int .i64 0) ∧ w = w' := by
  go_enter Try.func18, Try.ntmps18
  go_wp2_with fail
  go_ret
  exact ⟨rfl, rfl⟩
theorem fork_nil (w : World) : Calls Try.prog 22 #[.pointer none] w fun e w' => e = .returned (.pointer none) ∧ w = w' := by
  go_enter Try.func22, Try.ntmps22
  go_wp2_with fail
  go_ret
  exact ⟨rfl, rfl⟩
theorem next_nil (k : Int) (w : World) : Calls Try.prog 19 #[.pointer none, .int .i64 k] w fun e w' => e = .returned (.tuple #[.int .i64 0, .bool false]) ∧ w = w' := by
  go_enter Try.func19, Try.ntmps19
  go_wp2_with fail
  go_ret2
  exact ⟨rfl, rfl⟩
/-! ### A maker -/
theorem pnew_any (w : World) : Calls Try.prog 14 #[] w fun e w' => ∃ g, w.heap.size ≤ g ∧ e = .returned (.pointer (some ⟨g, 0, none⟩)) ∧ MkAt w' g false c0X 0 0 ∧ Below w.heap.size w w' := by
  have HX := Lib.hid (show MkAt (w.alloc (.cells (mkA false c0X 0 0) 100)) w.heap.size false c0X 0 0 from heap_alloc_new w _)
  have HB := Lib.hid ((Below.refl w.heap.size w).alloc (Nat.le_refl _) (.cells (mkA false c0X 0 0) 100))
  go_enter Try.func14, Try.ntmps14
  go_wp2_with fail
  go_ret
  exact ⟨w.heap.size, Nat.le_refl _, rfl, HX.out, HB.out⟩
section
variable {g : Nat} {w : World} {b : Bool} {x : ChV} {t n : Int}
theorem sent_any (h : MkAt w g b x t n) : Calls Try.prog 18 #[.pointer (some ⟨g, 0, none⟩)] w fun e w' => e = .returned (.int .i64 n) ∧ w = w' := by
  obtain ⟨c0, c2, c3, c4⟩ := h.cells
  clear h
  go_enter Try.func18, Try.ntmps18
  go_wp2_with fail
  go_ret
  exact ⟨rfl, rfl⟩
set_option maxRecDepth 100000 in
theorem mfork_any (h : MkAt w g b x t n) : Calls Try.prog 22 #[.pointer (some ⟨g, 0, none⟩)] w fun e w' => ∃ q, w.heap.size ≤ q ∧ e = .returned (.pointer (some ⟨q, 0, none⟩)) ∧ MkAt w' q b x t n ∧ Below w.heap.size w w' := by
  have HH : Hid (w.heap[g]? = some (.cells (mkA b x t n) 100 (0, 0))) := Lib.hid h
  have HI := Lib.hid info_mk
  have HZ := Lib.hid (show MkAt (w.alloc (.cells (mkA false c0X 0 0) 100)) w.heap.size false c0X 0 0 from heap_alloc_new w _)
  have HX := Lib.hid (HZ.out.row b x t n)
  have HB := Lib.hid (show Below w.heap.size w ((w.alloc (.cells (mkA false c0X 0 0) 100)).setRow w.heap.size (mkA b x t n)) from below_setRow ((Below.refl w.heap.size w).alloc (Nat.le_refl _) _) (Nat.le_refl _) _)
  have H1 := mkA_one b x t n
  have HS : Hid ((Try.prog.info? 100).map (·.size) = some (mkA b x t n).size) := HI
  have HSY : Hid ((mkA false c0X 0 0).size = (mkA b x t n).size) := Lib.hid rfl
  clear h
  generalize mkA b x t n = MX at *
  go_enter Try.func22, Try.ntmps22
  go_wp2_with (first
    | (refine wpList_load_row rfl _ (.tmp 7) rfl g rfl _ _ _ _ HH.out Try.underlying100 rfl HS.out ?_)
    | (refine wpList_store_row rfl _ (.tmp 3) (.tmp 8) rfl w.heap.size _ rfl rfl _ _ HZ.out HS.out HSY.out H1 ?_))
  go_ret
  exact ⟨w.heap.size, Nat.le_refl _, rfl, HX.out, HB.out⟩
/-- Is it due? -/
def dueB (b : Bool) (x0 : ChV) (t now : Int) (x : ChV) : Bool := !b || !(chB x0 x) || decide (x.time ≤ now - t)
end
end Go.Proofs.Ytllaajkpobpeiaa
