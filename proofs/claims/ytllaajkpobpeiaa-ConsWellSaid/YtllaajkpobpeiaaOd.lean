/- Tables of channels held against each other. -/
import Derived.Test.YtllaajkpobpeiaaOa
import Derived.Laws.StructEq
import Derived.ChangeKeysEq
namespace Go.Proofs.Ytllaajkpobpeiaa
open Go.RowKit
set_option linter.unusedSimpArgs false
set_option linter.unusedVariables false
set_option maxHeartbeats 4000000

theorem held_key : Try.prog.stoodInHeld 24 = false := by kernel_rfl
theorem held_slot : Try.prog.stoodInHeld 26 = false := by kernel_rfl
theorem held_chan : Try.prog.stoodInHeld 29 = false := by kernel_rfl
theorem und_key : Try.prog.underlying 24 = some (.struct (Try.prog.fieldsOf 24)) := by kernel_rfl
theorem und_slot : Try.prog.underlying 26 = some (.struct (Try.prog.fieldsOf 26)) := by kernel_rfl
theorem und_chan : Try.prog.underlying 29 = some (.struct (Try.prog.fieldsOf 29)) := by kernel_rfl
theorem fields_key : (Try.prog.fieldsOf 24).toList = [⟨"Index", 3, 0, false, "", "", 0⟩, ⟨"Sub", 3, 1, false, "", "", 8⟩] := by kernel_rfl
theorem fields_slot : (Try.prog.fieldsOf 26).toList = [⟨"Key", 24, 0, false, "", "", 0⟩, ⟨"Bits", 3, 2, false, "", "", 16⟩] := by kernel_rfl
theorem fields_chan : (Try.prog.fieldsOf 29).toList = [⟨"Dir", 22, 0, false, "", "", 0⟩, ⟨"Time", 3, 1, false, "", "", 8⟩, ⟨"Gap", 3, 2, false, "", "", 16⟩, ⟨"Plain", 3, 3, false, "", "", 24⟩, ⟨"Turned", 3, 4, false, "", "", 32⟩, ⟨"N", 3, 5, false, "", "", 40⟩, ⟨"Map", 27, 6, false, "", "", 48⟩] := by kernel_rfl
theorem cells_slot : Try.prog.cellsOf 26 = 3 := by kernel_rfl
theorem info_map : (Try.prog.info? 27).map (·.size) = some 24 := by kernel_rfl
theorem part_map (w : World) (cs : Array Value) : (part 27 cs 6).run Try.prog w = .ok (.agg (cs.extract 6 30)) w := by
  simp [part, isAgg, run_underlying Try.underlying27]
theorem part_key (w : World) (cs : Array Value) : (part 24 cs 0).run Try.prog w = .ok (.agg (cs.extract 0 2)) w := by
  simp [part, isAgg, run_underlying und_key]
theorem part_slot (w : World) (cs : Array Value) (o : Nat) : (part 26 cs o).run Try.prog w = .ok (.agg (cs.extract o (o + 3))) w := by
  simp [part, isAgg, run_underlying und_slot]
theorem part_dir (w : World) (cs : Array Value) (o : Nat) (v : Value) (h : cs[o]? = some v) : (part 22 cs o).run Try.prog w = .ok v w := run_part_plain w (by kernel_rfl) h
theorem run_eq_key (w : World) (n : Nat) (a b a' b' : Int) : (Op.equalIn (n + 2) 24 (.agg #[.int .i64 a, .int .i64 b]) (.agg #[.int .i64 a', .int .i64 b'])).run Try.prog w = .ok (decide (a = a' ∧ b = b')) w := by
  rw [run_equalIn_struct w (n + 1) 24 _ _ und_key held_key, fields_key]
  simp [Op.eqFields, Sem.run_bind, part_int, run_equalIn_int w n 3 _ _ _ _ Try.underlying3, Sem.run_ite, Result.andThen_ok]
  (repeat' split) <;> simp_all
def slB (a b : SlV) : Bool := decide (a.i = b.i ∧ a.j = b.j ∧ a.n = b.n)
def slA (a : SlV) : Array Value := #[.int .i64 a.i, .int .i64 a.j, .int .i64 a.n]
theorem run_eq_slot (w : World) (n : Nat) (a b : SlV) : (Op.equalIn (n + 3) 26 (.agg (slA a)) (.agg (slA b))).run Try.prog w = .ok (slB a b) w := by
  rw [run_equalIn_struct w (n + 2) 26 _ _ und_slot held_slot, fields_slot]
  have h2 := run_eq_key w n a.i a.j b.i b.j
  have p2 := fun z : SlV => part_int w (slA z) 2 (.int .i64 z.n) rfl
  have k2 := fun z : SlV => part_key w (slA z)
  have k3 := fun z : SlV => show (slA z).extract 0 2 = #[.int .i64 z.i, .int .i64 z.j] from rfl
  simp only [Op.eqFields, Sem.run_bind, p2, k2, k3, run_equalIn_int w (n + 1) 3 _ _ _ _ Try.underlying3, Sem.run_ite, Sem.run_pure, Result.andThen_ok, h2]
  clear h2 p2 k2 k3
  unfold slB
  by_cases q1 : a.i = b.i ∧ a.j = b.j
  · rw [decide_eq_true q1]
    obtain ⟨q1, q2⟩ := q1
    cases h3 : (a.n == b.n)
    · have : ¬ a.n = b.n := by simpa using h3
      simp [this]
    · have : a.n = b.n := by simpa using h3
      simp [q1, q2, this]
  · rw [decide_eq_false q1]
    have : ¬ (a.i = b.i ∧ a.j = b.j ∧ a.n = b.n) := fun h => q1 ⟨h.1, h.2.1⟩
    rw [decide_eq_false this]
    rfl
def mpA (x : ChV) : Array Value := #[.int .i64 (x.s 0).i, .int .i64 (x.s 0).j, .int .i64 (x.s 0).n, .int .i64 (x.s 1).i, .int .i64 (x.s 1).j, .int .i64 (x.s 1).n, .int .i64 (x.s 2).i, .int .i64 (x.s 2).j, .int .i64 (x.s 2).n, .int .i64 (x.s 3).i, .int .i64 (x.s 3).j, .int .i64 (x.s 3).n, .int .i64 (x.s 4).i, .int .i64 (x.s 4).j, .int .i64 (x.s 4).n, .int .i64 (x.s 5).i, .int .i64 (x.s 5).j, .int .i64 (x.s 5).n, .int .i64 (x.s 6).i, .int .i64 (x.s 6).j, .int .i64 (x.s 6).n, .int .i64 (x.s 7).i, .int .i64 (x.s 7).j, .int .i64 (x.s 7).n]
theorem mpA_of (x : ChV) : (chA x).extract 6 30 = mpA x := by kernel_rfl
theorem mpA_0 (x : ChV) : (mpA x).extract 0 (0 + 3) = slA (x.s 0) := by kernel_rfl
theorem mpA_1 (x : ChV) : (mpA x).extract 3 (3 + 3) = slA (x.s 1) := by kernel_rfl
theorem mpA_2 (x : ChV) : (mpA x).extract 6 (6 + 3) = slA (x.s 2) := by kernel_rfl
theorem mpA_3 (x : ChV) : (mpA x).extract 9 (9 + 3) = slA (x.s 3) := by kernel_rfl
theorem mpA_4 (x : ChV) : (mpA x).extract 12 (12 + 3) = slA (x.s 4) := by kernel_rfl
theorem mpA_5 (x : ChV) : (mpA x).extract 15 (15 + 3) = slA (x.s 5) := by kernel_rfl
theorem mpA_6 (x : ChV) : (mpA x).extract 18 (18 + 3) = slA (x.s 6) := by kernel_rfl
theorem mpA_7 (x : ChV) : (mpA x).extract 21 (21 + 3) = slA (x.s 7) := by kernel_rfl
def mapE (x y : ChV) : Bool := slB (x.s 0) (y.s 0) && (slB (x.s 1) (y.s 1) && (slB (x.s 2) (y.s 2) && (slB (x.s 3) (y.s 3) && (slB (x.s 4) (y.s 4) && (slB (x.s 5) (y.s 5) && (slB (x.s 6) (y.s 6) && slB (x.s 7) (y.s 7)))))))
theorem run_eq_map (w : World) (n : Nat) (x y : ChV) : (Op.equalIn (n + 4) 27 (.agg (mpA x)) (.agg (mpA y))).run Try.prog w = .ok (mapE x y) w := by
  obtain ⟨i, hi⟩ : ∃ i, Try.prog.info? 26 = some i := by
    cases h : Try.prog.info? 26 with
    | none => exact absurd (show (Try.prog.info? 26).isSome = true by kernel_rfl) (by simp [h])
    | some i => exact ⟨i, rfl⟩
  rw [run_equalIn_array w (n + 3) _ _ Try.underlying27 hi, cells_slot]
  have hq := fun a b => run_eq_slot w n a b
  simp only [show List.range 8 = [0, 1, 2, 3, 4, 5, 6, 7] from rfl, Op.eqItems, Sem.run_bind, part_slot, Result.andThen_ok, Nat.zero_mul, Nat.one_mul, show 2 * 3 = 6 from rfl, show 3 * 3 = 9 from rfl, show 4 * 3 = 12 from rfl, show 5 * 3 = 15 from rfl, show 6 * 3 = 18 from rfl, show 7 * 3 = 21 from rfl, mpA_0, mpA_1, mpA_2, mpA_3, mpA_4, mpA_5, mpA_6, mpA_7, hq, Sem.run_ite, Sem.run_pure]
  unfold mapE
  generalize slB (x.s 0) (y.s 0) = b0
  generalize slB (x.s 1) (y.s 1) = b1
  generalize slB (x.s 2) (y.s 2) = b2
  generalize slB (x.s 3) (y.s 3) = b3
  generalize slB (x.s 4) (y.s 4) = b4
  generalize slB (x.s 5) (y.s 5) = b5
  generalize slB (x.s 6) (y.s 6) = b6
  generalize slB (x.s 7) (y.s 7) = b7
  cases b0 <;> (try rfl)
  cases b1 <;> (try rfl)
  cases b2 <;> (try rfl)
  cases b3 <;> (try rfl)
  cases b4 <;> (try rfl)
  cases b5 <;> (try rfl)
  cases b6 <;> (try rfl)
  cases b7 <;> rfl
/-- Are two tables the same? -/
def chB (x y : ChV) : Bool := (x.dir == y.dir) && ((x.time == y.time) && ((x.gap == y.gap) && ((x.plain == y.plain) && ((x.turned == y.turned) && ((x.n == y.n) && mapE x y)))))
theorem run_eq_chan (w : World) (x y : ChV) : (Op.equalIn 10000 29 (.agg (chA x)) (.agg (chA y))).run Try.prog w = .ok (chB x y) w := by
  rw [run_equalIn_struct w 9999 29 _ _ und_chan held_chan, fields_chan]
  have h1 := run_eq_map w 9995 x y
  have p0 := fun z : ChV => part_dir w (chA z) 0 (.int .i64 z.dir) rfl
  have p1 := fun z : ChV => part_int w (chA z) 1 (.int .i64 z.time) rfl
  have p2 := fun z : ChV => part_int w (chA z) 2 (.int .i64 z.gap) rfl
  have p3 := fun z : ChV => part_int w (chA z) 3 (.int .i64 z.plain) rfl
  have p4 := fun z : ChV => part_int w (chA z) 4 (.int .i64 z.turned) rfl
  have p5 := fun z : ChV => part_int w (chA z) 5 (.int .i64 z.n) rfl
  simp only [Op.eqFields, Sem.run_bind, p0, p1, p2, p3, p4, p5, part_map, mpA_of, run_equalIn_int w 9998 3 _ _ _ _ Try.underlying3, run_equalIn_int w 9998 22 _ _ _ _ Try.underlying22, Sem.run_ite, Sem.run_pure, Result.andThen_ok, h1]
  clear h1 p0 p1 p2 p3 p4 p5
  unfold chB
  generalize mapE x y = b6
  cases (x.dir == y.dir) <;> (try rfl)
  cases (x.time == y.time) <;> (try rfl)
  cases (x.gap == y.gap) <;> (try rfl)
  cases (x.plain == y.plain) <;> (try rfl)
  cases (x.turned == y.turned) <;> (try rfl)
  cases (x.n == y.n) <;> (try rfl)
  cases b6 <;> rfl
theorem slB_iff {a b : SlV} : slB a b = true ↔ a = b := by
  obtain ⟨a, b, c⟩ := a
  rename_i b'
  obtain ⟨a', b', c'⟩ := b'
  simp [slB]
theorem chB_iff {x y : ChV} : chB x y = true ↔ chA x = chA y := by
  obtain ⟨a, b, c, d, e, f, s⟩ := x
  obtain ⟨a', b', c', d', e', f', s'⟩ := y
  simp only [chB, mapE, Bool.and_eq_true, beq_iff_eq, slB, decide_eq_true_eq, chA]
  constructor
  · rintro ⟨h1, h2, h3, h4, h5, h6, ⟨q1, q2, q3⟩, ⟨q4, q5, q6⟩, ⟨q7, q8, q9⟩, ⟨qa, qb, qc⟩, ⟨qd, qe, qf⟩, ⟨qg, qh, qi⟩, ⟨qj, qk, ql⟩, ⟨qm, qn, qo⟩⟩
    simp only [h1, h2, h3, h4, h5, h6, q1, q2, q3, q4, q5, q6, q7, q8, q9, qa, qb, qc, qd, qe, qf, qg, qh, qi, qj, qk, ql, qm, qn, qo]
  · intro h
    simp only [Array.mk.injEq, List.cons.injEq, Value.int.injEq, true_and, and_true] at h
    obtain ⟨h1, h2, h3, h4, h5, h6, q1, q2, q3, q4, q5, q6, q7, q8, q9, qa, qb, qc, qd, qe, qf, qg, qh, qi, qj, qk, ql, qm, qn, qo⟩ := h
    exact ⟨h1, h2, h3, h4, h5, h6, ⟨q1, q2, q3⟩, ⟨q4, q5, q6⟩, ⟨q7, q8, q9⟩, ⟨qa, qb, qc⟩, ⟨qd, qe, qf⟩, ⟨qg, qh, qi⟩, ⟨qj, qk, ql⟩, ⟨qm, qn, qo⟩⟩
end Go.Proofs.Ytllaajkpobpeiaa
