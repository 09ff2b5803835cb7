/- emcy: emergencies held against each other; rows in memory behind a call. -/
import Derived.Test.YtncnlbokipieaaaEj
import Derived.Deep.CutBlock
namespace Go.Proofs.Ytncnlbokipieaaa
open Go.RowKit Go.Maps
set_option linter.unusedSimpArgs false
set_option linter.unusedVariables false

theorem held_em : Try.prog.stoodInHeld 24 = false := by kernel_rfl
theorem und_em : Try.prog.underlying 24 = some (.struct (Try.prog.fieldsOf 24)) := by kernel_rfl
theorem fields_em : (Try.prog.fieldsOf 24).toList = [⟨"Node", 3, 0, false, "", "", 0⟩, ⟨"Code", 3, 1, false, "", "", 8⟩, ⟨"Reg", 5, 2, false, "", "", 16⟩, ⟨"Info", 22, 3, false, "", "", 17⟩] := by kernel_rfl
theorem part_info (w : World) (cs : Array Value) : (part 22 cs 3).run Try.prog w = .ok (.agg (cs.extract 3 8)) w := by
  simp [part, isAgg, run_underlying Try.underlying22]
def eqI (a b : Nat → Int) : Bool := decide (a 0 = b 0 ∧ a 1 = b 1 ∧ a 2 = b 2 ∧ a 3 = b 3 ∧ a 4 = b 4)
theorem run_eq_info (w : World) (n : Nat) (d d' : Nat → Int) : (Op.equalIn (n + 2) 22 (.agg #[.int .u8 (d 0), .int .u8 (d 1), .int .u8 (d 2), .int .u8 (d 3), .int .u8 (d 4)]) (.agg #[.int .u8 (d' 0), .int .u8 (d' 1), .int .u8 (d' 2), .int .u8 (d' 3), .int .u8 (d' 4)])).run Try.prog w = .ok (eqI d d') w := by
  obtain ⟨i, hi⟩ : ∃ i, Try.prog.info? 5 = some i := by
    cases h : Try.prog.info? 5 with
    | none => exact absurd (show (Try.prog.info? 5).isSome = true by kernel_rfl) (by simp [h])
    | some i => exact ⟨i, rfl⟩
  rw [run_equalIn_array w (n + 1) _ _ Try.underlying22 hi, cells_byte]
  simp only [show List.range 5 = [0, 1, 2, 3, 4] from rfl, Op.eqItems, Sem.run_bind, Nat.mul_one]
  simp [part_byte, run_equalIn_int w n 5 _ _ _ _ Try.underlying5, Sem.run_ite, Result.andThen_ok]
  unfold eqI
  (repeat' split) <;> simp_all
/-- Two emergencies are held against each other. -/
theorem run_eq_em (w : World) (a a' b b' c c' : Int) (i i' : Nat → Int) : (Op.equalIn 10000 24 (.agg #[.int .i64 a, .int .i64 b, .int .u8 c, .int .u8 (i 0), .int .u8 (i 1), .int .u8 (i 2), .int .u8 (i 3), .int .u8 (i 4)]) (.agg #[.int .i64 a', .int .i64 b', .int .u8 c', .int .u8 (i' 0), .int .u8 (i' 1), .int .u8 (i' 2), .int .u8 (i' 3), .int .u8 (i' 4)])).run Try.prog w = .ok (decide (a = a' ∧ b = b' ∧ c = c') && eqI i i') w := by
  rw [run_equalIn_struct w 9999 24 _ _ und_em held_em, fields_em]
  have h22 := run_eq_info w 9997 i i'
  simp [Op.eqFields, Sem.run_bind, part_int, part_byte, part_info, run_equalIn_int w 9998 3 _ _ _ _ Try.underlying3, run_equalIn_int w 9998 5 _ _ _ _ Try.underlying5, Sem.run_ite, Result.andThen_ok, h22]
  (repeat' split) <;> simp_all
section
variable {w0 x y : World} {k : Nat} {nd cd rg id n : Int} {r : Bool} {i d : Nat → Int}
theorem fr_step (h : FrAt x k id r n d) (hb : Below x.heap.size x y) (o : Obj) (cs : Array Value) : FrAt ((y.alloc o).setRow y.heap.size cs) k id r n d :=
  ((h.below hb h.lt).below ((Below.refl y.heap.size y).alloc (Nat.le_refl _) o) (h.below hb h.lt).lt).row_other (Nat.ne_of_lt (h.below hb h.lt).lt) cs
theorem em_step (h : EmAt x k nd cd rg i) (hb : Below x.heap.size x y) (o : Obj) (cs : Array Value) : EmAt ((y.alloc o).setRow y.heap.size cs) k nd cd rg i :=
  (setRow_other (y.alloc o) y.heap.size k cs (Nat.ne_of_lt (h.below hb h.lt).lt)).trans ((h.below hb h.lt).below ((Below.refl y.heap.size y).alloc (Nat.le_refl _) o) (h.below hb h.lt).lt)
theorem bel_step (h : Below w0.heap.size w0 x) (hb : Below x.heap.size x y) (o : Obj) (cs : Array Value) : Below w0.heap.size w0 ((y.alloc o).setRow y.heap.size cs) :=
  have h1 := h.trans (hb.mono h.size)
  below_setRow (h1.alloc h1.size o) h1.size cs
theorem fr_made (y : World) (id n : Int) (r : Bool) (d : Nat → Int) : FrAt ((y.alloc (.cells #[.int .i64 0, .bool false, .int .i64 0, .int .u8 0, .int .u8 0, .int .u8 0, .int .u8 0, .int .u8 0, .int .u8 0, .int .u8 0, .int .u8 0] 27)).setRow y.heap.size #[.int .i64 id, .bool r, .int .i64 n, .int .u8 (d 0), .int .u8 (d 1), .int .u8 (d 2), .int .u8 (d 3), .int .u8 (d 4), .int .u8 (d 5), .int .u8 (d 6), .int .u8 (d 7)]) y.heap.size id r n d := (frame_new y 0 0 false (fun _ => 0)).row id n r d
theorem em_new (y : World) (nd cd rg : Int) (i : Nat → Int) : EmAt (y.alloc (.cells #[.int .i64 nd, .int .i64 cd, .int .u8 rg, .int .u8 (i 0), .int .u8 (i 1), .int .u8 (i 2), .int .u8 (i 3), .int .u8 (i 4)] 24)) y.heap.size nd cd rg i := heap_alloc_new y _
theorem em_made (y : World) (nd cd rg : Int) (i : Nat → Int) : EmAt ((y.alloc (.cells #[.int .i64 0, .int .i64 0, .int .u8 0, .int .u8 0, .int .u8 0, .int .u8 0, .int .u8 0, .int .u8 0] 24)).setRow y.heap.size #[.int .i64 nd, .int .i64 cd, .int .u8 rg, .int .u8 (i 0), .int .u8 (i 1), .int .u8 (i 2), .int .u8 (i 3), .int .u8 (i 4)]) y.heap.size nd cd rg i := setRow_heap _ y.heap.size _ _ _ (0, 0) (em_new y 0 0 0 (fun _ => 0))
end
end Go.Proofs.Ytncnlbokipieaaa
