/- Messages and lines held against each other. -/
import Derived.Test.YtfccjekhdfpkoaaKl
import Derived.Laws.StructEq
import Derived.ChangeKeysEq
namespace Go.Proofs.Ytfccjekhdfpkoaa
open Go.RowKit
set_option linter.unusedSimpArgs false
set_option linter.unusedVariables false
set_option maxHeartbeats 4000000

theorem held_msg : Try.prog.stoodInHeld 28 = false := by kernel_rfl
theorem held_key : Try.prog.stoodInHeld 24 = false := by kernel_rfl
theorem und_msg : Try.prog.underlying 28 = some (.struct (Try.prog.fieldsOf 28)) := by kernel_rfl
theorem und_key : Try.prog.underlying 24 = some (.struct (Try.prog.fieldsOf 24)) := by kernel_rfl
theorem fields_key : (Try.prog.fieldsOf 24).toList = [⟨"Index", 3, 0, false, "", "", 0⟩, ⟨"Sub", 3, 1, false, "", "", 8⟩] := by kernel_rfl
theorem fields_msg : (Try.prog.fieldsOf 28).toList = [⟨"Cmd", 22, 0, false, "", "", 0⟩, ⟨"Key", 24, 1, false, "", "", 8⟩, ⟨"Toggle", 4, 3, false, "", "", 24⟩, ⟨"Last", 4, 4, false, "", "", 25⟩, ⟨"Fast", 4, 5, false, "", "", 26⟩, ⟨"Sum", 4, 6, false, "", "", 27⟩, ⟨"Size", 3, 7, false, "", "", 32⟩, ⟨"N", 3, 8, false, "", "", 40⟩, ⟨"Data", 25, 9, false, "", "", 48⟩, ⟨"Code", 26, 16, false, "", "", 56⟩, ⟨"Seq", 3, 17, false, "", "", 64⟩, ⟨"Block", 3, 18, false, "", "", 72⟩, ⟨"Spare", 3, 19, false, "", "", 80⟩, ⟨"Crc", 3, 20, false, "", "", 88⟩] := by kernel_rfl
theorem cells_byte : Try.prog.cellsOf 5 = 1 := by kernel_rfl
theorem info_seven : (Try.prog.info? 25).map (·.size) = some 7 := by kernel_rfl
theorem part_seven (w : World) (cs : Array Value) : (part 25 cs 9).run Try.prog w = .ok (.agg (cs.extract 9 16)) w := by
  simp [part, isAgg, run_underlying Try.underlying25]
theorem part_key (w : World) (cs : Array Value) : (part 24 cs 1).run Try.prog w = .ok (.agg (cs.extract 1 3)) w := by
  simp [part, isAgg, run_underlying und_key]
theorem part_int (w : World) (cs : Array Value) (o : Nat) (v : Value) (h : cs[o]? = some v) : (part 3 cs o).run Try.prog w = .ok v w := run_part_plain w (by kernel_rfl) h
theorem part_cmd (w : World) (cs : Array Value) (o : Nat) (v : Value) (h : cs[o]? = some v) : (part 22 cs o).run Try.prog w = .ok v w := run_part_plain w (by kernel_rfl) h
theorem part_abort (w : World) (cs : Array Value) (o : Nat) (v : Value) (h : cs[o]? = some v) : (part 26 cs o).run Try.prog w = .ok v w := run_part_plain w (by kernel_rfl) h
theorem part_bool (w : World) (cs : Array Value) (o : Nat) (v : Value) (h : cs[o]? = some v) : (part 4 cs o).run Try.prog w = .ok v w := run_part_plain w (by kernel_rfl) h
theorem part_byte (w : World) (cs : Array Value) (o : Nat) (v : Value) (h : cs[o]? = some v) : (part 5 cs o).run Try.prog w = .ok v w := run_part_plain w (by kernel_rfl) h
theorem run_eq_seven (w : World) (n : Nat) (x0 x1 x2 x3 x4 x5 x6 y0 y1 y2 y3 y4 y5 y6 : Int) : (Op.equalIn (n + 2) 25 (.agg #[.int .u8 x0, .int .u8 x1, .int .u8 x2, .int .u8 x3, .int .u8 x4, .int .u8 x5, .int .u8 x6]) (.agg #[.int .u8 y0, .int .u8 y1, .int .u8 y2, .int .u8 y3, .int .u8 y4, .int .u8 y5, .int .u8 y6])).run Try.prog w = .ok (decide (x0 = y0 ∧ x1 = y1 ∧ x2 = y2 ∧ x3 = y3 ∧ x4 = y4 ∧ x5 = y5 ∧ x6 = y6)) w := by
  obtain ⟨i, hi⟩ : ∃ i, Try.prog.info? 5 = some i := by
    cases h : Try.prog.info? 5 with
    | none => exact absurd (show (Try.prog.info? 5).isSome = true by kernel_rfl) (by simp [h])
    | some i => exact ⟨i, rfl⟩
  rw [run_equalIn_array w (n + 1) _ _ Try.underlying25 hi, cells_byte]
  simp only [show List.range 7 = [0, 1, 2, 3, 4, 5, 6] from rfl, Op.eqItems, Sem.run_bind, Nat.mul_one]
  simp [part_byte, run_equalIn_int w n 5 _ _ _ _ Try.underlying5, Sem.run_ite, Result.andThen_ok]
  (repeat' split) <;> simp_all
theorem run_eq_line (w : World) (x0 x1 x2 x3 x4 x5 x6 x7 y0 y1 y2 y3 y4 y5 y6 y7 : Int) : (Op.equalIn 10000 30 (.agg #[.int .u8 x0, .int .u8 x1, .int .u8 x2, .int .u8 x3, .int .u8 x4, .int .u8 x5, .int .u8 x6, .int .u8 x7]) (.agg #[.int .u8 y0, .int .u8 y1, .int .u8 y2, .int .u8 y3, .int .u8 y4, .int .u8 y5, .int .u8 y6, .int .u8 y7])).run Try.prog w = .ok (decide (x0 = y0 ∧ x1 = y1 ∧ x2 = y2 ∧ x3 = y3 ∧ x4 = y4 ∧ x5 = y5 ∧ x6 = y6 ∧ x7 = y7)) w := by
  obtain ⟨i, hi⟩ : ∃ i, Try.prog.info? 5 = some i := by
    cases h : Try.prog.info? 5 with
    | none => exact absurd (show (Try.prog.info? 5).isSome = true by kernel_rfl) (by simp [h])
    | some i => exact ⟨i, rfl⟩
  rw [run_equalIn_array w 9999 _ _ Try.underlying30 hi, cells_byte]
  simp only [show List.range 8 = [0, 1, 2, 3, 4, 5, 6, 7] from rfl, Op.eqItems, Sem.run_bind, Nat.mul_one]
  simp [part_byte, run_equalIn_int w 9998 5 _ _ _ _ Try.underlying5, Sem.run_ite, Result.andThen_ok]
  (repeat' split) <;> simp_all
theorem run_eq_key (w : World) (n : Nat) (a b a' b' : Int) : (Op.equalIn (n + 2) 24 (.agg #[.int .i64 a, .int .i64 b]) (.agg #[.int .i64 a', .int .i64 b'])).run Try.prog w = .ok (decide (a = a' ∧ b = b')) w := by
  rw [run_equalIn_struct w (n + 1) 24 _ _ und_key held_key, fields_key]
  simp [Op.eqFields, Sem.run_bind, part_int, run_equalIn_int w n 3 _ _ _ _ Try.underlying3, Sem.run_ite, Result.andThen_ok]
  (repeat' split) <;> simp_all
/-- Two messages are held against each other. -/
theorem run_eq_msg (w : World) (c ki ks : Int) (tg la fa su : Bool) (sz n d0 d1 d2 d3 d4 d5 d6 co sq bl sp cr : Int) (c' ki' ks' : Int) (tg' la' fa' su' : Bool) (sz' n' d0' d1' d2' d3' d4' d5' d6' co' sq' bl' sp' cr' : Int) : (Op.equalIn 10000 28 (.agg #[.int .i64 c, .int .i64 ki, .int .i64 ks, .bool tg, .bool la, .bool fa, .bool su, .int .i64 sz, .int .i64 n, .int .u8 d0, .int .u8 d1, .int .u8 d2, .int .u8 d3, .int .u8 d4, .int .u8 d5, .int .u8 d6, .int .i64 co, .int .i64 sq, .int .i64 bl, .int .i64 sp, .int .i64 cr]) (.agg #[.int .i64 c', .int .i64 ki', .int .i64 ks', .bool tg', .bool la', .bool fa', .bool su', .int .i64 sz', .int .i64 n', .int .u8 d0', .int .u8 d1', .int .u8 d2', .int .u8 d3', .int .u8 d4', .int .u8 d5', .int .u8 d6', .int .i64 co', .int .i64 sq', .int .i64 bl', .int .i64 sp', .int .i64 cr'])).run Try.prog w = .ok (decide (c = c' ∧ ki = ki' ∧ ks = ks' ∧ tg = tg' ∧ la = la' ∧ fa = fa' ∧ su = su' ∧ sz = sz' ∧ n = n' ∧ d0 = d0' ∧ d1 = d1' ∧ d2 = d2' ∧ d3 = d3' ∧ d4 = d4' ∧ d5 = d5' ∧ d6 = d6' ∧ co = co' ∧ sq = sq' ∧ bl = bl' ∧ sp = sp' ∧ cr = cr')) w := by
  rw [run_equalIn_struct w 9999 28 _ _ und_msg held_msg, fields_msg]
  have h1 := run_eq_seven w 9997 d0 d1 d2 d3 d4 d5 d6 d0' d1' d2' d3' d4' d5' d6'
  have h2 := run_eq_key w 9997 ki ks ki' ks'
  simp [Op.eqFields, Sem.run_bind, part_int, part_bool, part_cmd, part_abort, part_seven, part_key, run_equalIn_int w 9998 3 _ _ _ _ Try.underlying3, run_equalIn_int w 9998 22 _ _ _ _ Try.underlying22, run_equalIn_int w 9998 26 _ _ _ _ Try.underlying26, run_equalIn_bool w 9998 4 _ _ Try.underlying4, Sem.run_ite, Result.andThen_ok, h1, h2]
  clear h1 h2
  by_cases q_c : c = c'
  case neg =>
    rw [if_neg q_c]
    refine congrArg (fun b => Result.ok b w) (Eq.symm (Bool.eq_false_iff.2 fun hh => ?_))
    simp only [Bool.and_eq_true, decide_eq_true_eq] at hh
    obtain ⟨a_c, a_ki, a_ks, a_tg, a_la, a_fa, a_su, a_sz, a_n, a_d0, a_d1, a_d2, a_d3, a_d4, a_d5, a_d6, a_co, a_sq, a_bl, a_sp, a_cr⟩ := hh
    exact q_c a_c
  rw [if_pos q_c]
  by_cases q_ki : ki = ki' ∧ ks = ks'
  case neg =>
    rw [if_pos (fun a_ki a_ks => q_ki ⟨a_ki, a_ks⟩)]
    refine congrArg (fun b => Result.ok b w) (Eq.symm (Bool.eq_false_iff.2 fun hh => ?_))
    simp only [Bool.and_eq_true, decide_eq_true_eq] at hh
    obtain ⟨a_c, a_ki, a_ks, a_tg, a_la, a_fa, a_su, a_sz, a_n, a_d0, a_d1, a_d2, a_d3, a_d4, a_d5, a_d6, a_co, a_sq, a_bl, a_sp, a_cr⟩ := hh
    exact q_ki ⟨a_ki, a_ks⟩
  rw [if_neg (fun h => h q_ki.1 q_ki.2)]
  by_cases q_tg : tg = tg'
  case neg =>
    rw [if_neg q_tg]
    refine congrArg (fun b => Result.ok b w) (Eq.symm (Bool.eq_false_iff.2 fun hh => ?_))
    simp only [Bool.and_eq_true, decide_eq_true_eq] at hh
    obtain ⟨a_c, a_ki, a_ks, a_tg, a_la, a_fa, a_su, a_sz, a_n, a_d0, a_d1, a_d2, a_d3, a_d4, a_d5, a_d6, a_co, a_sq, a_bl, a_sp, a_cr⟩ := hh
    exact q_tg a_tg
  rw [if_pos q_tg]
  by_cases q_la : la = la'
  case neg =>
    rw [if_neg q_la]
    refine congrArg (fun b => Result.ok b w) (Eq.symm (Bool.eq_false_iff.2 fun hh => ?_))
    simp only [Bool.and_eq_true, decide_eq_true_eq] at hh
    obtain ⟨a_c, a_ki, a_ks, a_tg, a_la, a_fa, a_su, a_sz, a_n, a_d0, a_d1, a_d2, a_d3, a_d4, a_d5, a_d6, a_co, a_sq, a_bl, a_sp, a_cr⟩ := hh
    exact q_la a_la
  rw [if_pos q_la]
  by_cases q_fa : fa = fa'
  case neg =>
    rw [if_neg q_fa]
    refine congrArg (fun b => Result.ok b w) (Eq.symm (Bool.eq_false_iff.2 fun hh => ?_))
    simp only [Bool.and_eq_true, decide_eq_true_eq] at hh
    obtain ⟨a_c, a_ki, a_ks, a_tg, a_la, a_fa, a_su, a_sz, a_n, a_d0, a_d1, a_d2, a_d3, a_d4, a_d5, a_d6, a_co, a_sq, a_bl, a_sp, a_cr⟩ := hh
    exact q_fa a_fa
  rw [if_pos q_fa]
  by_cases q_su : su = su'
  case neg =>
    rw [if_neg q_su]
    refine congrArg (fun b => Result.ok b w) (Eq.symm (Bool.eq_false_iff.2 fun hh => ?_))
    simp only [Bool.and_eq_true, decide_eq_true_eq] at hh
    obtain ⟨a_c, a_ki, a_ks, a_tg, a_la, a_fa, a_su, a_sz, a_n, a_d0, a_d1, a_d2, a_d3, a_d4, a_d5, a_d6, a_co, a_sq, a_bl, a_sp, a_cr⟩ := hh
    exact q_su a_su
  rw [if_pos q_su]
  by_cases q_sz : sz = sz'
  case neg =>
    rw [if_neg q_sz]
    refine congrArg (fun b => Result.ok b w) (Eq.symm (Bool.eq_false_iff.2 fun hh => ?_))
    simp only [Bool.and_eq_true, decide_eq_true_eq] at hh
    obtain ⟨a_c, a_ki, a_ks, a_tg, a_la, a_fa, a_su, a_sz, a_n, a_d0, a_d1, a_d2, a_d3, a_d4, a_d5, a_d6, a_co, a_sq, a_bl, a_sp, a_cr⟩ := hh
    exact q_sz a_sz
  rw [if_pos q_sz]
  by_cases q_n : n = n'
  case neg =>
    rw [if_neg q_n]
    refine congrArg (fun b => Result.ok b w) (Eq.symm (Bool.eq_false_iff.2 fun hh => ?_))
    simp only [Bool.and_eq_true, decide_eq_true_eq] at hh
    obtain ⟨a_c, a_ki, a_ks, a_tg, a_la, a_fa, a_su, a_sz, a_n, a_d0, a_d1, a_d2, a_d3, a_d4, a_d5, a_d6, a_co, a_sq, a_bl, a_sp, a_cr⟩ := hh
    exact q_n a_n
  rw [if_pos q_n]
  by_cases q_d0 : d0 = d0' ∧ d1 = d1' ∧ d2 = d2' ∧ d3 = d3' ∧ d4 = d4' ∧ d5 = d5' ∧ d6 = d6'
  case neg =>
    rw [if_pos (fun a_d0 a_d1 a_d2 a_d3 a_d4 a_d5 a_d6 => q_d0 ⟨a_d0, a_d1, a_d2, a_d3, a_d4, a_d5, a_d6⟩)]
    refine congrArg (fun b => Result.ok b w) (Eq.symm (Bool.eq_false_iff.2 fun hh => ?_))
    simp only [Bool.and_eq_true, decide_eq_true_eq] at hh
    obtain ⟨a_c, a_ki, a_ks, a_tg, a_la, a_fa, a_su, a_sz, a_n, a_d0, a_d1, a_d2, a_d3, a_d4, a_d5, a_d6, a_co, a_sq, a_bl, a_sp, a_cr⟩ := hh
    exact q_d0 ⟨a_d0, a_d1, a_d2, a_d3, a_d4, a_d5, a_d6⟩
  rw [if_neg (fun h => h q_d0.1 q_d0.2.1 q_d0.2.2.1 q_d0.2.2.2.1 q_d0.2.2.2.2.1 q_d0.2.2.2.2.2.1 q_d0.2.2.2.2.2.2)]
  by_cases q_co : co = co'
  case neg =>
    rw [if_neg q_co]
    refine congrArg (fun b => Result.ok b w) (Eq.symm (Bool.eq_false_iff.2 fun hh => ?_))
    simp only [Bool.and_eq_true, decide_eq_true_eq] at hh
    obtain ⟨a_c, a_ki, a_ks, a_tg, a_la, a_fa, a_su, a_sz, a_n, a_d0, a_d1, a_d2, a_d3, a_d4, a_d5, a_d6, a_co, a_sq, a_bl, a_sp, a_cr⟩ := hh
    exact q_co a_co
  rw [if_pos q_co]
  by_cases q_sq : sq = sq'
  case neg =>
    rw [if_neg q_sq]
    refine congrArg (fun b => Result.ok b w) (Eq.symm (Bool.eq_false_iff.2 fun hh => ?_))
    simp only [Bool.and_eq_true, decide_eq_true_eq] at hh
    obtain ⟨a_c, a_ki, a_ks, a_tg, a_la, a_fa, a_su, a_sz, a_n, a_d0, a_d1, a_d2, a_d3, a_d4, a_d5, a_d6, a_co, a_sq, a_bl, a_sp, a_cr⟩ := hh
    exact q_sq a_sq
  rw [if_pos q_sq]
  by_cases q_bl : bl = bl'
  case neg =>
    rw [if_neg q_bl]
    refine congrArg (fun b => Result.ok b w) (Eq.symm (Bool.eq_false_iff.2 fun hh => ?_))
    simp only [Bool.and_eq_true, decide_eq_true_eq] at hh
    obtain ⟨a_c, a_ki, a_ks, a_tg, a_la, a_fa, a_su, a_sz, a_n, a_d0, a_d1, a_d2, a_d3, a_d4, a_d5, a_d6, a_co, a_sq, a_bl, a_sp, a_cr⟩ := hh
    exact q_bl a_bl
  rw [if_pos q_bl]
  by_cases q_sp : sp = sp'
  case neg =>
    rw [if_neg q_sp]
    refine congrArg (fun b => Result.ok b w) (Eq.symm (Bool.eq_false_iff.2 fun hh => ?_))
    simp only [Bool.and_eq_true, decide_eq_true_eq] at hh
    obtain ⟨a_c, a_ki, a_ks, a_tg, a_la, a_fa, a_su, a_sz, a_n, a_d0, a_d1, a_d2, a_d3, a_d4, a_d5, a_d6, a_co, a_sq, a_bl, a_sp, a_cr⟩ := hh
    exact q_sp a_sp
  rw [if_pos q_sp]
  by_cases q_cr : cr = cr'
  case neg =>
    rw [if_neg q_cr]
    refine congrArg (fun b => Result.ok b w) (Eq.symm (Bool.eq_false_iff.2 fun hh => ?_))
    simp only [Bool.and_eq_true, decide_eq_true_eq] at hh
    obtain ⟨a_c, a_ki, a_ks, a_tg, a_la, a_fa, a_su, a_sz, a_n, a_d0, a_d1, a_d2, a_d3, a_d4, a_d5, a_d6, a_co, a_sq, a_bl, a_sp, a_cr⟩ := hh
    exact q_cr a_cr
  rw [if_pos q_cr]
  refine congrArg (fun b => Result.ok b w) (Eq.symm ?_)
  simp only [Bool.and_eq_true, decide_eq_true_eq]
  exact ⟨q_c, q_ki.1, q_ki.2, q_tg, q_la, q_fa, q_su, q_sz, q_n, q_d0.1, q_d0.2.1, q_d0.2.2.1, q_d0.2.2.2.1, q_d0.2.2.2.2.1, q_d0.2.2.2.2.2.1, q_d0.2.2.2.2.2.2, q_co, q_sq, q_bl, q_sp, q_cr⟩
end Go.Proofs.Ytfccjekhdfpkoaa
