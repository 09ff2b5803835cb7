/- The walk of NmtOrders. -/
import Derived.Test.YtnijdcbpllmieaaNk
import Derived.Test.YtnijdcbpllmieaaNRl
import Derived.Deep.CutBlock
namespace Go.Proofs.Ytnijdcbpllmieaa
open Go.RowKit
set_option linter.unusedSimpArgs false
set_option linter.unusedVariables false

theorem held_order : Try.prog.stoodInHeld 24 = false := by kernel_rfl
theorem und_order : Try.prog.underlying 24 = some (.struct (Try.prog.fieldsOf 24)) := by kernel_rfl
theorem fields_order : (Try.prog.fieldsOf 24).toList = [⟨"Verb", 22, 0, false, "", "", 0⟩, ⟨"Node", 3, 1, false, "", "", 8⟩] := by kernel_rfl
theorem part_verb (w : World) (cs : Array Value) (o : Nat) (v : Value) (h : cs[o]? = some v) : (part 22 cs o).run Try.prog w = .ok v w := run_part_plain w (by kernel_rfl) h
theorem run_eq_orders (v n : Int) (w : World) : (Op.equalIn 10000 24 (.agg #[.int .i64 v, .int .i64 n]) (.agg #[.int .i64 v, .int .i64 n])).run Try.prog w = .ok true w := by
  rw [run_equalIn_struct w 9999 24 _ _ und_order held_order, fields_order]
  simp [Op.eqFields, Sem.run_bind, part_int, part_verb, run_equalIn_int w 9998 3 _ _ _ _ Try.underlying3, run_equalIn_int w 9998 22 _ _ _ _ Try.underlying22, Sem.run_ite, Result.andThen_ok]
theorem dOf_rng {v n : Int} (h : mayO v n = true) : ∀ j, j < 8 → 0 ≤ dOf [v, n] j ∧ dOf [v, n] j ≤ 255 := by
  obtain ⟨hv, h0, h1⟩ := mayO_yes h
  intro j hj
  match j with
  | 0 => exact ⟨by show 0 ≤ v; omega, by show v ≤ 255; omega⟩
  | 1 => exact ⟨by show 0 ≤ n; omega, by show n ≤ 255; omega⟩
  | j + 2 => simp [dOf]
theorem decO_own {v n : Int} (h : mayO v n = true) : decO 0 false 2 (dOf [v, n]) = true := (decO_iff 0 2 false (dOf [v, n])).2 ⟨chk_two v n, rfl, rfl, rfl, h⟩
/-- The statement's own two. -/
structure OrS (w wr : World) (v n id : Int) (r : Bool) (k : Int) (d : Nat → Int) : Prop where
  o : OrAt wr w.heap.size v n
  f : FrAt wr (w.heap.size + 1) id r k d
  bel : Below w.heap.size w wr
section
variable {w wr w' : World} {v n id k : Int} {r : Bool} {d : Nat → Int}
theorem OrS.below (h : OrS w wr v n id r k d) (hb : Below wr.heap.size wr w') : OrS w w' v n id r k d := ⟨h.o.below hb h.o.lt, h.f.below hb h.f.lt, h.bel.trans (hb.mono h.bel.size)⟩
theorem OrS.setRow {g : Nat} (h : OrS w wr v n id r k d) (hg : w.heap.size + 1 < g) (cs : Array Value) : OrS w (wr.setRow g cs) v n id r k d :=
  ⟨h.o.row_other (by omega) cs, h.f.row_other (by omega) cs, below_setRow h.bel (by omega) cs⟩
theorem OrS.drew (h : OrS w wr v n id r k d) : OrS w wr.drew v n id r k d := ⟨h.o, h.f, h.bel.drew⟩
end
end Go.Proofs.Ytnijdcbpllmieaa
