/- Messages and lines held against each other. -/
import Derived.Test.YtoamgdcjmkkmfaaKl2
import Derived.Laws.StructEq
import Derived.ChangeKeysEq
import Derived.Test.YtoamgdcjmkkmfaaKn1
import Derived.Test.YtoamgdcjmkkmfaaKn2
import Derived.Test.YtoamgdcjmkkmfaaKn3
import Derived.Test.YtoamgdcjmkkmfaaKn4
import Derived.Test.YtoamgdcjmkkmfaaKn5
import Derived.Test.YtoamgdcjmkkmfaaKn6
import Derived.Test.YtoamgdcjmkkmfaaKn7
set_option linter.unusedSimpArgs false
set_option linter.unusedVariables false
namespace Go.Proofs.Ytoamgdcjmkkmfaa
open Go.RowKit
set_option maxHeartbeats 4000000

theorem held_msg : Try.prog.stoodInHeld 30 = false := by kernel_rfl
theorem held_key : Try.prog.stoodInHeld 26 = false := by kernel_rfl
theorem und_msg : Try.prog.underlying 30 = some (.struct (Try.prog.fieldsOf 30)) := by kernel_rfl
theorem und_key : Try.prog.underlying 26 = some (.struct (Try.prog.fieldsOf 26)) := by kernel_rfl
theorem fields_key : (Try.prog.fieldsOf 26).toList = [⟨"Index", 3, 0, false, "", "", 0⟩, ⟨"Sub", 3, 1, false, "", "", 8⟩] := by kernel_rfl
theorem fields_msg : (Try.prog.fieldsOf 30).toList = [⟨"Cmd", 24, 0, false, "", "", 0⟩, ⟨"Key", 26, 1, false, "", "", 8⟩, ⟨"Toggle", 4, 3, false, "", "", 24⟩, ⟨"Last", 4, 4, false, "", "", 25⟩, ⟨"Fast", 4, 5, false, "", "", 26⟩, ⟨"Sum", 4, 6, false, "", "", 27⟩, ⟨"Size", 3, 7, false, "", "", 32⟩, ⟨"N", 3, 8, false, "", "", 40⟩, ⟨"Data", 27, 9, false, "", "", 48⟩, ⟨"Code", 28, 16, false, "", "", 56⟩, ⟨"Seq", 3, 17, false, "", "", 64⟩, ⟨"Block", 3, 18, false, "", "", 72⟩, ⟨"Spare", 3, 19, false, "", "", 80⟩, ⟨"Crc", 3, 20, false, "", "", 88⟩] := by kernel_rfl
theorem cells_byte : Try.prog.cellsOf 5 = 1 := by kernel_rfl
theorem part_seven (w : World) (cs : Array Value) : (part 27 cs 9).run Try.prog w = .ok (.agg (cs.extract 9 16)) w := by
  simp [part, isAgg, run_underlying Try.underlying27]
theorem part_key (w : World) (cs : Array Value) : (part 26 cs 1).run Try.prog w = .ok (.agg (cs.extract 1 3)) w := by
  simp [part, isAgg, run_underlying und_key]
theorem part_int (w : World) (cs : Array Value) (o : Nat) (v : Value) (h : cs[o]? = some v) : (part 3 cs o).run Try.prog w = .ok v w := run_part_plain w (by kernel_rfl) h
theorem part_cmd (w : World) (cs : Array Value) (o : Nat) (v : Value) (h : cs[o]? = some v) : (part 24 cs o).run Try.prog w = .ok v w := run_part_plain w (by kernel_rfl) h
theorem part_abort (w : World) (cs : Array Value) (o : Nat) (v : Value) (h : cs[o]? = some v) : (part 28 cs o).run Try.prog w = .ok v w := run_part_plain w (by kernel_rfl) h
theorem part_bool (w : World) (cs : Array Value) (o : Nat) (v : Value) (h : cs[o]? = some v) : (part 4 cs o).run Try.prog w = .ok v w := run_part_plain w (by kernel_rfl) h
theorem part_byte (w : World) (cs : Array Value) (o : Nat) (v : Value) (h : cs[o]? = some v) : (part 5 cs o).run Try.prog w = .ok v w := run_part_plain w (by kernel_rfl) h
theorem run_eq_seven (w : World) (n : Nat) (x0 x1 x2 x3 x4 x5 x6 y0 y1 y2 y3 y4 y5 y6 : Int) : (Op.equalIn (n + 2) 27 (.agg #[.int .u8 x0, .int .u8 x1, .int .u8 x2, .int .u8 x3, .int .u8 x4, .int .u8 x5, .int .u8 x6]) (.agg #[.int .u8 y0, .int .u8 y1, .int .u8 y2, .int .u8 y3, .int .u8 y4, .int .u8 y5, .int .u8 y6])).run Try.prog w = .ok (decide (x0 = y0 ∧ x1 = y1 ∧ x2 = y2 ∧ x3 = y3 ∧ x4 = y4 ∧ x5 = y5 ∧ x6 = y6)) w := by
  obtain ⟨i, hi⟩ : ∃ i, Try.prog.info? 5 = some i := by
    cases h : Try.prog.info? 5 with
    | none => exact absurd (show (Try.prog.info? 5).isSome = true by kernel_rfl) (by simp [h])
    | some i => exact ⟨i, rfl⟩
  rw [run_equalIn_array w (n + 1) _ _ Try.underlying27 hi, cells_byte]
  simp only [show List.range 7 = [0, 1, 2, 3, 4, 5, 6] from rfl, Op.eqItems, Sem.run_bind, Nat.mul_one]
  simp [part_byte, run_equalIn_int w n 5 _ _ _ _ Try.underlying5, Sem.run_ite, Result.andThen_ok]
  (repeat' split) <;> simp_all
theorem run_eq_line (w : World) (x0 x1 x2 x3 x4 x5 x6 x7 y0 y1 y2 y3 y4 y5 y6 y7 : Int) : (Op.equalIn 10000 23 (.agg #[.int .u8 x0, .int .u8 x1, .int .u8 x2, .int .u8 x3, .int .u8 x4, .int .u8 x5, .int .u8 x6, .int .u8 x7]) (.agg #[.int .u8 y0, .int .u8 y1, .int .u8 y2, .int .u8 y3, .int .u8 y4, .int .u8 y5, .int .u8 y6, .int .u8 y7])).run Try.prog w = .ok (decide (x0 = y0 ∧ x1 = y1 ∧ x2 = y2 ∧ x3 = y3 ∧ x4 = y4 ∧ x5 = y5 ∧ x6 = y6 ∧ x7 = y7)) w := by
  obtain ⟨i, hi⟩ : ∃ i, Try.prog.info? 5 = some i := by
    cases h : Try.prog.info? 5 with
    | none => exact absurd (show (Try.prog.info? 5).isSome = true by kernel_rfl) (by simp [h])
    | some i => exact ⟨i, rfl⟩
  rw [run_equalIn_array w 9999 _ _ Try.underlying23 hi, cells_byte]
  simp only [show List.range 8 = [0, 1, 2, 3, 4, 5, 6, 7] from rfl, Op.eqItems, Sem.run_bind, Nat.mul_one]
  simp [part_byte, run_equalIn_int w 9998 5 _ _ _ _ Try.underlying5, Sem.run_ite, Result.andThen_ok]
  (repeat' split) <;> simp_all
theorem run_eq_key (w : World) (n : Nat) (a b a' b' : Int) : (Op.equalIn (n + 2) 26 (.agg #[.int .i64 a, .int .i64 b]) (.agg #[.int .i64 a', .int .i64 b'])).run Try.prog w = .ok (decide (a = a' ∧ b = b')) w := by
  rw [run_equalIn_struct w (n + 1) 26 _ _ und_key held_key, fields_key]
  simp [Op.eqFields, Sem.run_bind, part_int, run_equalIn_int w n 3 _ _ _ _ Try.underlying3, Sem.run_ite, Result.andThen_ok]
  (repeat' split) <;> simp_all
theorem run_eq_msg (w : World) (c ki ks : Int) (tg la fa su : Bool) (sz n d0 d1 d2 d3 d4 d5 d6 co sq bl sp cr : Int) (c' ki' ks' : Int) (tg' la' fa' su' : Bool) (sz' n' d0' d1' d2' d3' d4' d5' d6' co' sq' bl' sp' cr' : Int) : (Op.equalIn 10000 30 (.agg #[.int .i64 c, .int .i64 ki, .int .i64 ks, .bool tg, .bool la, .bool fa, .bool su, .int .i64 sz, .int .i64 n, .int .u8 d0, .int .u8 d1, .int .u8 d2, .int .u8 d3, .int .u8 d4, .int .u8 d5, .int .u8 d6, .int .i64 co, .int .i64 sq, .int .i64 bl, .int .i64 sp, .int .i64 cr]) (.agg #[.int .i64 c', .int .i64 ki', .int .i64 ks', .bool tg', .bool la', .bool fa', .bool su', .int .i64 sz', .int .i64 n', .int .u8 d0', .int .u8 d1', .int .u8 d2', .int .u8 d3', .int .u8 d4', .int .u8 d5', .int .u8 d6', .int .i64 co', .int .i64 sq', .int .i64 bl', .int .i64 sp', .int .i64 cr'])).run Try.prog w = .ok (decide (c = c' ∧ ki = ki' ∧ ks = ks' ∧ tg = tg' ∧ la = la' ∧ fa = fa' ∧ su = su' ∧ sz = sz' ∧ n = n' ∧ d0 = d0' ∧ d1 = d1' ∧ d2 = d2' ∧ d3 = d3' ∧ d4 = d4' ∧ d5 = d5' ∧ d6 = d6' ∧ co = co' ∧ sq = sq' ∧ bl = bl' ∧ sp = sp' ∧ cr = cr')) w := by
  rw [run_equalIn_struct w 9999 30 _ _ und_msg held_msg, fields_msg]
  have h1 := run_eq_seven w 9997 d0 d1 d2 d3 d4 d5 d6 d0' d1' d2' d3' d4' d5' d6'
  have h2 := run_eq_key w 9997 ki ks ki' ks'
  simp [Op.eqFields, Sem.run_bind, part_int, part_bool, part_cmd, part_abort, part_seven, part_key, run_equalIn_int w 9998 3 _ _ _ _ Try.underlying3, run_equalIn_int w 9998 24 _ _ _ _ Try.underlying24, run_equalIn_int w 9998 28 _ _ _ _ Try.underlying28, run_equalIn_bool w 9998 4 _ _ Try.underlying4, Sem.run_ite, Result.andThen_ok, h1, h2]
  clear h1 h2
  by_cases q_c : c = c'
  case neg =>
    rw [if_neg q_c]
    refine congrArg (fun b => Result.ok b w) (Eq.symm (Bool.eq_false_iff.2 fun hh => ?_))
    simp only [Bool.and_eq_true, decide_eq_true_eq] at hh
    obtain ⟨a_c, a_ki, a_ks, a_tg, a_la, a_fa, a_su, a_sz, a_n, a_d0, a_d1, a_d2, a_d3, a_d4, a_d5, a_d6, a_co, a_sq, a_bl, a_sp, a_cr⟩ := hh
    exact q_c a_c
  rw [if_pos q_c]
  by_cases q_ki : ki = ki' ∧ ks = ks'
  case neg =>
    rw [if_pos (fun a_ki a_ks => q_ki ⟨a_ki, a_ks⟩)]
    refine congrArg (fun b => Result.ok b w) (Eq.symm (Bool.eq_false_iff.2 fun hh => ?_))
    simp only [Bool.and_eq_true, decide_eq_true_eq] at hh
    obtain ⟨a_c, a_ki, a_ks, a_tg, a_la, a_fa, a_su, a_sz, a_n, a_d0, a_d1, a_d2, a_d3, a_d4, a_d5, a_d6, a_co, a_sq, a_bl, a_sp, a_cr⟩ := hh
    exact q_ki ⟨a_ki, a_ks⟩
  rw [if_neg (fun h => h q_ki.1 q_ki.2)]
  by_cases q_tg : tg = tg'
  case neg =>
    rw [if_neg q_tg]
    refine congrArg (fun b => Result.ok b w) (Eq.symm (Bool.eq_false_iff.2 fun hh => ?_))
    simp only [Bool.and_eq_true, decide_eq_true_eq] at hh
    obtain ⟨a_c, a_ki, a_ks, a_tg, a_la, a_fa, a_su, a_sz, a_n, a_d0, a_d1, a_d2, a_d3, a_d4, a_d5, a_d6, a_co, a_sq, a_bl, a_sp, a_cr⟩ := hh
    exact q_tg a_tg
  rw [if_pos q_tg]
  by_cases q_la : la = la'
  case neg =>
    rw [if_neg q_la]
    refine congrArg (fun b => Result.ok b w) (Eq.symm (Bool.eq_false_iff.2 fun hh => ?_))
    simp only [Bool.and_eq_true, decide_eq_true_eq] at hh
    obtain ⟨a_c, a_ki, a_ks, a_tg, a_la, a_fa, a_su, a_sz, a_n, a_d0, a_d1, a_d2, a_d3, a_d4, a_d5, a_d6, a_co, a_sq, a_bl, a_sp, a_cr⟩ := hh
    exact q_la a_la
  rw [if_pos q_la]
  by_cases q_fa : fa = fa'
  case neg =>
    rw [if_neg q_fa]
    refine congrArg (fun b => Result.ok b w) (Eq.symm (Bool.eq_false_iff.2 fun hh => ?_))
    simp only [Bool.and_eq_true, decide_eq_true_eq] at hh
    obtain ⟨a_c, a_ki, a_ks, a_tg, a_la, a_fa, a_su, a_sz, a_n, a_d0, a_d1, a_d2, a_d3, a_d4, a_d5, a_d6, a_co, a_sq, a_bl, a_sp, a_cr⟩ := hh
    exact q_fa a_fa
  rw [if_pos q_fa]
  by_cases q_su : su = su'
  case neg =>
    rw [if_neg q_su]
    refine congrArg (fun b => Result.ok b w) (Eq.symm (Bool.eq_false_iff.2 fun hh => ?_))
    simp only [Bool.and_eq_true, decide_eq_true_eq] at hh
    obtain ⟨a_c, a_ki, a_ks, a_tg, a_la, a_fa, a_su, a_sz, a_n, a_d0, a_d1, a_d2, a_d3, a_d4, a_d5, a_d6, a_co, a_sq, a_bl, a_sp, a_cr⟩ := hh
    exact q_su a_su
  rw [if_pos q_su]
  by_cases q_sz : sz = sz'
  case neg =>
    rw [if_neg q_sz]
    refine congrArg (fun b => Result.ok b w) (Eq.symm (Bool.eq_false_iff.2 fun hh => ?_))
    simp only [Bool.and_eq_true, decide_eq_true_eq] at hh
    obtain ⟨a_c, a_ki, a_ks, a_tg, a_la, a_fa, a_su, a_sz, a_n, a_d0, a_d1, a_d2, a_d3, a_d4, a_d5, a_d6, a_co, a_sq, a_bl, a_sp, a_cr⟩ := hh
    exact q_sz a_sz
  rw [if_pos q_sz]
  by_cases q_n : n = n'
  case neg =>
    rw [if_neg q_n]
    refine congrArg (fun b => Result.ok b w) (Eq.symm (Bool.eq_false_iff.2 fun hh => ?_))
    simp only [Bool.and_eq_true, decide_eq_true_eq] at hh
    obtain ⟨a_c, a_ki, a_ks, a_tg, a_la, a_fa, a_su, a_sz, a_n, a_d0, a_d1, a_d2, a_d3, a_d4, a_d5, a_d6, a_co, a_sq, a_bl, a_sp, a_cr⟩ := hh
    exact q_n a_n
  rw [if_pos q_n]
  by_cases q_d0 : d0 = d0' ∧ d1 = d1' ∧ d2 = d2' ∧ d3 = d3' ∧ d4 = d4' ∧ d5 = d5' ∧ d6 = d6'
  case neg =>
    rw [if_pos (fun a_d0 a_d1 a_d2 a_d3 a_d4 a_d5 a_d6 => q_d0 ⟨a_d0, a_d1, a_d2, a_d3, a_d4, a_d5, a_d6⟩)]
    refine congrArg (fun b => Result.ok b w) (Eq.symm (Bool.eq_false_iff.2 fun hh => ?_))
    simp only [Bool.and_eq_true, decide_eq_true_eq] at hh
    obtain ⟨a_c, a_ki, a_ks, a_tg, a_la, a_fa, a_su, a_sz, a_n, a_d0, a_d1, a_d2, a_d3, a_d4, a_d5, a_d6, a_co, a_sq, a_bl, a_sp, a_cr⟩ := hh
    exact q_d0 ⟨a_d0, a_d1, a_d2, a_d3, a_d4, a_d5, a_d6⟩
  rw [if_neg (fun h => h q_d0.1 q_d0.2.1 q_d0.2.2.1 q_d0.2.2.2.1 q_d0.2.2.2.2.1 q_d0.2.2.2.2.2.1 q_d0.2.2.2.2.2.2)]
  by_cases q_co : co = co'
  case neg =>
    rw [if_neg q_co]
    refine congrArg (fun b => Result.ok b w) (Eq.symm (Bool.eq_false_iff.2 fun hh => ?_))
    simp only [Bool.and_eq_true, decide_eq_true_eq] at hh
    obtain ⟨a_c, a_ki, a_ks, a_tg, a_la, a_fa, a_su, a_sz, a_n, a_d0, a_d1, a_d2, a_d3, a_d4, a_d5, a_d6, a_co, a_sq, a_bl, a_sp, a_cr⟩ := hh
    exact q_co a_co
  rw [if_pos q_co]
  by_cases q_sq : sq = sq'
  case neg =>
    rw [if_neg q_sq]
    refine congrArg (fun b => Result.ok b w) (Eq.symm (Bool.eq_false_iff.2 fun hh => ?_))
    simp only [Bool.and_eq_true, decide_eq_true_eq] at hh
    obtain ⟨a_c, a_ki, a_ks, a_tg, a_la, a_fa, a_su, a_sz, a_n, a_d0, a_d1, a_d2, a_d3, a_d4, a_d5, a_d6, a_co, a_sq, a_bl, a_sp, a_cr⟩ := hh
    exact q_sq a_sq
  rw [if_pos q_sq]
  by_cases q_bl : bl = bl'
  case neg =>
    rw [if_neg q_bl]
    refine congrArg (fun b => Result.ok b w) (Eq.symm (Bool.eq_false_iff.2 fun hh => ?_))
    simp only [Bool.and_eq_true, decide_eq_true_eq] at hh
    obtain ⟨a_c, a_ki, a_ks, a_tg, a_la, a_fa, a_su, a_sz, a_n, a_d0, a_d1, a_d2, a_d3, a_d4, a_d5, a_d6, a_co, a_sq, a_bl, a_sp, a_cr⟩ := hh
    exact q_bl a_bl
  rw [if_pos q_bl]
  by_cases q_sp : sp = sp'
  case neg =>
    rw [if_neg q_sp]
    refine congrArg (fun b => Result.ok b w) (Eq.symm (Bool.eq_false_iff.2 fun hh => ?_))
    simp only [Bool.and_eq_true, decide_eq_true_eq] at hh
    obtain ⟨a_c, a_ki, a_ks, a_tg, a_la, a_fa, a_su, a_sz, a_n, a_d0, a_d1, a_d2, a_d3, a_d4, a_d5, a_d6, a_co, a_sq, a_bl, a_sp, a_cr⟩ := hh
    exact q_sp a_sp
  rw [if_pos q_sp]
  by_cases q_cr : cr = cr'
  case neg =>
    rw [if_neg q_cr]
    refine congrArg (fun b => Result.ok b w) (Eq.symm (Bool.eq_false_iff.2 fun hh => ?_))
    simp only [Bool.and_eq_true, decide_eq_true_eq] at hh
    obtain ⟨a_c, a_ki, a_ks, a_tg, a_la, a_fa, a_su, a_sz, a_n, a_d0, a_d1, a_d2, a_d3, a_d4, a_d5, a_d6, a_co, a_sq, a_bl, a_sp, a_cr⟩ := hh
    exact q_cr a_cr
  rw [if_pos q_cr]
  refine congrArg (fun b => Result.ok b w) (Eq.symm ?_)
  simp only [Bool.and_eq_true, decide_eq_true_eq]
  exact ⟨q_c, q_ki.1, q_ki.2, q_tg, q_la, q_fa, q_su, q_sz, q_n, q_d0.1, q_d0.2.1, q_d0.2.2.1, q_d0.2.2.2.1, q_d0.2.2.2.2.1, q_d0.2.2.2.2.2.1, q_d0.2.2.2.2.2.2, q_co, q_sq, q_bl, q_sp, q_cr⟩
end Go.Proofs.Ytoamgdcjmkkmfaa
namespace Go.Proofs.Ytoamgdcjmkkmfaa
open Go.RowKit
set_option maxHeartbeats 4000000

def mAr (m : Ms) : Array Value := #[.int .i64 m.c, .int .i64 m.ki, .int .i64 m.ks, .bool m.tg, .bool m.la, .bool m.fa, .bool m.su, .int .i64 m.sz, .int .i64 m.n, .int .u8 m.d0, .int .u8 m.d1, .int .u8 m.d2, .int .u8 m.d3, .int .u8 m.d4, .int .u8 m.d5, .int .u8 m.d6, .int .i64 m.co, .int .i64 m.sq, .int .i64 m.bl, .int .i64 m.sp, .int .i64 m.cr]
theorem mAr_one (m : Ms) : (mAr m).all (·.oneCell') = true := one_msg m.c m.ki m.ks m.tg m.la m.fa m.su m.sz m.n m.d0 m.d1 m.d2 m.d3 m.d4 m.d5 m.d6 m.co m.sq m.bl m.sp m.cr
def eqM (a b : Ms) : Bool := decide (a.c = b.c ∧ a.ki = b.ki ∧ a.ks = b.ks ∧ a.tg = b.tg ∧ a.la = b.la ∧ a.fa = b.fa ∧ a.su = b.su ∧ a.sz = b.sz ∧ a.n = b.n ∧ a.d0 = b.d0 ∧ a.d1 = b.d1 ∧ a.d2 = b.d2 ∧ a.d3 = b.d3 ∧ a.d4 = b.d4 ∧ a.d5 = b.d5 ∧ a.d6 = b.d6 ∧ a.co = b.co ∧ a.sq = b.sq ∧ a.bl = b.bl ∧ a.sp = b.sp ∧ a.cr = b.cr)
theorem eqM_iff {a b : Ms} : eqM a b = true ↔ a = b := by
  unfold eqM
  rw [decide_eq_true_eq]
  constructor
  · intro h
    cases a; cases b
    simp only at h
    simp only [Ms.mk.injEq]
    exact h
  · rintro rfl
    simp
theorem run_eqM (a b : Ms) (w : World) : (Op.equalIn 10000 30 (.agg (mAr a)) (.agg (mAr b))).run Try.prog w = .ok (eqM a b) w := run_eq_msg w a.c a.ki a.ks a.tg a.la a.fa a.su a.sz a.n a.d0 a.d1 a.d2 a.d3 a.d4 a.d5 a.d6 a.co a.sq a.bl a.sp a.cr b.c b.ki b.ks b.tg b.la b.fa b.su b.sz b.n b.d0 b.d1 b.d2 b.d3 b.d4 b.d5 b.d6 b.co b.sq b.bl b.sp b.cr
def eqL (a b : List Int) : Bool := decide (a.getD 0 0 = b.getD 0 0 ∧ a.getD 1 0 = b.getD 1 0 ∧ a.getD 2 0 = b.getD 2 0 ∧ a.getD 3 0 = b.getD 3 0 ∧ a.getD 4 0 = b.getD 4 0 ∧ a.getD 5 0 = b.getD 5 0 ∧ a.getD 6 0 = b.getD 6 0 ∧ a.getD 7 0 = b.getD 7 0)
theorem run_eqL (a b : List Int) (w : World) : (Op.equalIn 10000 23 (.agg (lnA a)) (.agg (lnA b))).run Try.prog w = .ok (eqL a b) w := run_eq_line w (a.getD 0 0) (a.getD 1 0) (a.getD 2 0) (a.getD 3 0) (a.getD 4 0) (a.getD 5 0) (a.getD 6 0) (a.getD 7 0) (b.getD 0 0) (b.getD 1 0) (b.getD 2 0) (b.getD 3 0) (b.getD 4 0) (b.getD 5 0) (b.getD 6 0) (b.getD 7 0)
def Byte8 (l : List Int) : Prop := ∀ i, 0 ≤ l.getD i 0 ∧ l.getD i 0 ≤ 255
theorem byte8_of {l : List Int} (h : ∀ x ∈ l, 0 ≤ x ∧ x ≤ 255) : Byte8 l := fun i => by
  by_cases hi : i < l.length
  · have := h l[i] (List.getElem_mem hi)
    simpa [List.getD, List.getElem?_eq_getElem hi] using this
  · simp [List.getD, List.getElem?_eq_none (show l.length ≤ i by omega)]
def getM (c : Int) (l : List Int) : Ms :=
  if c = 1 then (if l.getD 0 0 / 2 % 2 = 1 then ⟨1, ((l.getD 1 0) + 256 * (l.getD 2 0)), ((l.getD 3 0)), false, false, (true), false, 0, (4 - (l.getD 0 0) / 4 % 4), (([(l.getD 4 0), (l.getD 5 0), (l.getD 6 0), (l.getD 7 0)].take (4 - (l.getD 0 0) / 4 % 4).toNat).getD 0 0), (([(l.getD 4 0), (l.getD 5 0), (l.getD 6 0), (l.getD 7 0)].take (4 - (l.getD 0 0) / 4 % 4).toNat).getD 1 0), (([(l.getD 4 0), (l.getD 5 0), (l.getD 6 0), (l.getD 7 0)].take (4 - (l.getD 0 0) / 4 % 4).toNat).getD 2 0), (([(l.getD 4 0), (l.getD 5 0), (l.getD 6 0), (l.getD 7 0)].take (4 - (l.getD 0 0) / 4 % 4).toNat).getD 3 0), (([(l.getD 4 0), (l.getD 5 0), (l.getD 6 0), (l.getD 7 0)].take (4 - (l.getD 0 0) / 4 % 4).toNat).getD 4 0), (([(l.getD 4 0), (l.getD 5 0), (l.getD 6 0), (l.getD 7 0)].take (4 - (l.getD 0 0) / 4 % 4).toNat).getD 5 0), (([(l.getD 4 0), (l.getD 5 0), (l.getD 6 0), (l.getD 7 0)].take (4 - (l.getD 0 0) / 4 % 4).toNat).getD 6 0), 0, 0, 0, 0, 0⟩ else ⟨1, ((l.getD 1 0) + 256 * (l.getD 2 0)), ((l.getD 3 0)), false, false, (false), false, (gsN (decide ((l.getD 0 0) % 2 = 1)) 0 [(l.getD 4 0), (l.getD 5 0), (l.getD 6 0), (l.getD 7 0)]), 0, 0, 0, 0, 0, 0, 0, 0, 0, 0, 0, 0, 0⟩) else
  if c = 10 then (if l.getD 0 0 / 2 % 2 = 1 then ⟨10, ((l.getD 1 0) + 256 * (l.getD 2 0)), ((l.getD 3 0)), false, false, (true), false, 0, (4 - (l.getD 0 0) / 4 % 4), (([(l.getD 4 0), (l.getD 5 0), (l.getD 6 0), (l.getD 7 0)].take (4 - (l.getD 0 0) / 4 % 4).toNat).getD 0 0), (([(l.getD 4 0), (l.getD 5 0), (l.getD 6 0), (l.getD 7 0)].take (4 - (l.getD 0 0) / 4 % 4).toNat).getD 1 0), (([(l.getD 4 0), (l.getD 5 0), (l.getD 6 0), (l.getD 7 0)].take (4 - (l.getD 0 0) / 4 % 4).toNat).getD 2 0), (([(l.getD 4 0), (l.getD 5 0), (l.getD 6 0), (l.getD 7 0)].take (4 - (l.getD 0 0) / 4 % 4).toNat).getD 3 0), (([(l.getD 4 0), (l.getD 5 0), (l.getD 6 0), (l.getD 7 0)].take (4 - (l.getD 0 0) / 4 % 4).toNat).getD 4 0), (([(l.getD 4 0), (l.getD 5 0), (l.getD 6 0), (l.getD 7 0)].take (4 - (l.getD 0 0) / 4 % 4).toNat).getD 5 0), (([(l.getD 4 0), (l.getD 5 0), (l.getD 6 0), (l.getD 7 0)].take (4 - (l.getD 0 0) / 4 % 4).toNat).getD 6 0), 0, 0, 0, 0, 0⟩ else ⟨10, ((l.getD 1 0) + 256 * (l.getD 2 0)), ((l.getD 3 0)), false, false, (false), false, (gsN (decide ((l.getD 0 0) % 2 = 1)) 0 [(l.getD 4 0), (l.getD 5 0), (l.getD 6 0), (l.getD 7 0)]), 0, 0, 0, 0, 0, 0, 0, 0, 0, 0, 0, 0, 0⟩) else
  if c = 0 then ⟨0, 0, 0, false, false, false, false, 0, 0, 0, 0, 0, 0, 0, 0, 0, 0, 0, 0, 0, 0⟩ else
  if c = 7 then ⟨7, 0, 0, false, false, false, false, 0, 0, 0, 0, 0, 0, 0, 0, 0, 0, 0, 0, 0, 0⟩ else
  if c = 17 then ⟨17, 0, 0, false, false, false, false, 0, 0, 0, 0, 0, 0, 0, 0, 0, 0, 0, 0, 0, 0⟩ else
  if c = 4 then ⟨4, 0, 0, (decide ((l.getD 0 0) / 16 % 2 = 1)), false, false, false, 0, 0, 0, 0, 0, 0, 0, 0, 0, 0, 0, 0, 0, 0⟩ else
  if c = 9 then ⟨9, 0, 0, (decide ((l.getD 0 0) / 16 % 2 = 1)), false, false, false, 0, 0, 0, 0, 0, 0, 0, 0, 0, 0, 0, 0, 0, 0⟩ else
  if c = 15 then ⟨15, 0, 0, false, false, false, false, 0, 0, 0, 0, 0, 0, 0, 0, 0, 0, ((l.getD 1 0)), ((l.getD 2 0)), 0, 0⟩ else
  if c = 16 then ⟨16, 0, 0, false, false, false, false, 0, 0, 0, 0, 0, 0, 0, 0, 0, 0, 0, 0, ((l.getD 0 0) / 4 % 8), ((l.getD 1 0) + 256 * (l.getD 2 0))⟩ else
  if c = 3 then ⟨3, ((l.getD 1 0) + 256 * (l.getD 2 0)), ((l.getD 3 0)), false, false, false, false, 0, 0, 0, 0, 0, 0, 0, 0, 0, 0, 0, 0, 0, 0⟩ else
  if c = 8 then ⟨8, ((l.getD 1 0) + 256 * (l.getD 2 0)), ((l.getD 3 0)), false, false, false, false, 0, 0, 0, 0, 0, 0, 0, 0, 0, 0, 0, 0, 0, 0⟩ else
  if c = 5 then ⟨5, ((l.getD 1 0) + 256 * (l.getD 2 0)), ((l.getD 3 0)), false, false, false, (decide ((l.getD 0 0) / 4 % 2 = 1)), (gsN (decide ((l.getD 0 0) / 2 % 2 = 1)) 0 [(l.getD 4 0), (l.getD 5 0), (l.getD 6 0), (l.getD 7 0)]), 0, 0, 0, 0, 0, 0, 0, 0, 0, 0, 0, 0, 0⟩ else
  if c = 13 then ⟨13, ((l.getD 1 0) + 256 * (l.getD 2 0)), ((l.getD 3 0)), false, false, false, (decide ((l.getD 0 0) / 4 % 2 = 1)), (gsN (decide ((l.getD 0 0) / 2 % 2 = 1)) 0 [(l.getD 4 0), (l.getD 5 0), (l.getD 6 0), (l.getD 7 0)]), 0, 0, 0, 0, 0, 0, 0, 0, 0, 0, 0, 0, 0⟩ else
  if c = 14 then ⟨14, ((l.getD 1 0) + 256 * (l.getD 2 0)), ((l.getD 3 0)), false, false, false, false, 0, 0, 0, 0, 0, 0, 0, 0, 0, ((l.getD 4 0) + 256 * (l.getD 5 0) + 65536 * (l.getD 6 0) + 16777216 * (l.getD 7 0)), 0, 0, 0, 0⟩ else
  if c = 2 then ⟨2, 0, 0, (decide ((l.getD 0 0) / 16 % 2 = 1)), (decide ((l.getD 0 0) % 2 = 1)), false, false, 0, (7 - (l.getD 0 0) / 2 % 8), (([(l.getD 1 0), (l.getD 2 0), (l.getD 3 0), (l.getD 4 0), (l.getD 5 0), (l.getD 6 0), (l.getD 7 0)].take (7 - (l.getD 0 0) / 2 % 8).toNat).getD 0 0), (([(l.getD 1 0), (l.getD 2 0), (l.getD 3 0), (l.getD 4 0), (l.getD 5 0), (l.getD 6 0), (l.getD 7 0)].take (7 - (l.getD 0 0) / 2 % 8).toNat).getD 1 0), (([(l.getD 1 0), (l.getD 2 0), (l.getD 3 0), (l.getD 4 0), (l.getD 5 0), (l.getD 6 0), (l.getD 7 0)].take (7 - (l.getD 0 0) / 2 % 8).toNat).getD 2 0), (([(l.getD 1 0), (l.getD 2 0), (l.getD 3 0), (l.getD 4 0), (l.getD 5 0), (l.getD 6 0), (l.getD 7 0)].take (7 - (l.getD 0 0) / 2 % 8).toNat).getD 3 0), (([(l.getD 1 0), (l.getD 2 0), (l.getD 3 0), (l.getD 4 0), (l.getD 5 0), (l.getD 6 0), (l.getD 7 0)].take (7 - (l.getD 0 0) / 2 % 8).toNat).getD 4 0), (([(l.getD 1 0), (l.getD 2 0), (l.getD 3 0), (l.getD 4 0), (l.getD 5 0), (l.getD 6 0), (l.getD 7 0)].take (7 - (l.getD 0 0) / 2 % 8).toNat).getD 5 0), (([(l.getD 1 0), (l.getD 2 0), (l.getD 3 0), (l.getD 4 0), (l.getD 5 0), (l.getD 6 0), (l.getD 7 0)].take (7 - (l.getD 0 0) / 2 % 8).toNat).getD 6 0), 0, 0, 0, 0, 0⟩ else
  if c = 11 then ⟨11, 0, 0, (decide ((l.getD 0 0) / 16 % 2 = 1)), (decide ((l.getD 0 0) % 2 = 1)), false, false, 0, (7 - (l.getD 0 0) / 2 % 8), (([(l.getD 1 0), (l.getD 2 0), (l.getD 3 0), (l.getD 4 0), (l.getD 5 0), (l.getD 6 0), (l.getD 7 0)].take (7 - (l.getD 0 0) / 2 % 8).toNat).getD 0 0), (([(l.getD 1 0), (l.getD 2 0), (l.getD 3 0), (l.getD 4 0), (l.getD 5 0), (l.getD 6 0), (l.getD 7 0)].take (7 - (l.getD 0 0) / 2 % 8).toNat).getD 1 0), (([(l.getD 1 0), (l.getD 2 0), (l.getD 3 0), (l.getD 4 0), (l.getD 5 0), (l.getD 6 0), (l.getD 7 0)].take (7 - (l.getD 0 0) / 2 % 8).toNat).getD 2 0), (([(l.getD 1 0), (l.getD 2 0), (l.getD 3 0), (l.getD 4 0), (l.getD 5 0), (l.getD 6 0), (l.getD 7 0)].take (7 - (l.getD 0 0) / 2 % 8).toNat).getD 3 0), (([(l.getD 1 0), (l.getD 2 0), (l.getD 3 0), (l.getD 4 0), (l.getD 5 0), (l.getD 6 0), (l.getD 7 0)].take (7 - (l.getD 0 0) / 2 % 8).toNat).getD 4 0), (([(l.getD 1 0), (l.getD 2 0), (l.getD 3 0), (l.getD 4 0), (l.getD 5 0), (l.getD 6 0), (l.getD 7 0)].take (7 - (l.getD 0 0) / 2 % 8).toNat).getD 5 0), (([(l.getD 1 0), (l.getD 2 0), (l.getD 3 0), (l.getD 4 0), (l.getD 5 0), (l.getD 6 0), (l.getD 7 0)].take (7 - (l.getD 0 0) / 2 % 8).toNat).getD 6 0), 0, 0, 0, 0, 0⟩ else
  if c = 6 then ⟨6, ((l.getD 1 0) + 256 * (l.getD 2 0)), ((l.getD 3 0)), false, false, false, (decide ((l.getD 0 0) / 4 % 2 = 1)), 0, 0, 0, 0, 0, 0, 0, 0, 0, 0, 0, ((l.getD 4 0)), 0, 0⟩ else
  if c = 12 then ⟨12, ((l.getD 1 0) + 256 * (l.getD 2 0)), ((l.getD 3 0)), false, false, false, (decide ((l.getD 0 0) / 4 % 2 = 1)), 0, 0, 0, 0, 0, 0, 0, 0, 0, 0, 0, ((l.getD 4 0)), 0, 0⟩ else
  ⟨0, 0, 0, false, false, false, false, 0, 0, 0, 0, 0, 0, 0, 0, 0, 0, 0, 0, 0, 0⟩
theorem mget_any (c : Int) (l : List Int) (hc : 0 ≤ c ∧ c ≤ 17) (hl : Byte8 l) (w : World) : Calls Try.prog 7 #[.agg (lnA l), .int .i64 c] w fun e w' => e = .returned (.agg (mAr (getM c l))) ∧ Below w.heap.size w w' := by
  have hr : (∀ x ∈ [l.getD 1 0, l.getD 2 0, l.getD 3 0, l.getD 4 0, l.getD 5 0, l.getD 6 0, l.getD 7 0], 0 ≤ x ∧ x ≤ 255) ∧ 0 ≤ l.getD 0 0 ∧ l.getD 0 0 ≤ 255 := by
    refine ⟨fun x hx => ?_, hl 0⟩
    simp only [List.mem_cons, List.not_mem_nil, or_false] at hx
    rcases hx with rfl | rfl | rfl | rfl | rfl | rfl | rfl
    all_goals exact hl _
  have : c = 0 ∨ c = 1 ∨ c = 2 ∨ c = 3 ∨ c = 4 ∨ c = 5 ∨ c = 6 ∨ c = 7 ∨ c = 8 ∨ c = 9 ∨ c = 10 ∨ c = 11 ∨ c = 12 ∨ c = 13 ∨ c = 14 ∨ c = 15 ∨ c = 16 ∨ c = 17 := by omega
  rcases this with rfl | rfl | rfl | rfl | rfl | rfl | rfl | rfl | rfl | rfl | rfl | rfl | rfl | rfl | rfl | rfl | rfl | rfl
  · exact get_0 (l.getD 0 0) (l.getD 1 0) (l.getD 2 0) (l.getD 3 0) (l.getD 4 0) (l.getD 5 0) (l.getD 6 0) (l.getD 7 0) hr w
  · by_cases hf : l.getD 0 0 / 2 % 2 = 1
    · have e : getM 1 l = ⟨1, ((l.getD 1 0) + 256 * (l.getD 2 0)), ((l.getD 3 0)), false, false, (true), false, 0, (4 - (l.getD 0 0) / 4 % 4), (([(l.getD 4 0), (l.getD 5 0), (l.getD 6 0), (l.getD 7 0)].take (4 - (l.getD 0 0) / 4 % 4).toNat).getD 0 0), (([(l.getD 4 0), (l.getD 5 0), (l.getD 6 0), (l.getD 7 0)].take (4 - (l.getD 0 0) / 4 % 4).toNat).getD 1 0), (([(l.getD 4 0), (l.getD 5 0), (l.getD 6 0), (l.getD 7 0)].take (4 - (l.getD 0 0) / 4 % 4).toNat).getD 2 0), (([(l.getD 4 0), (l.getD 5 0), (l.getD 6 0), (l.getD 7 0)].take (4 - (l.getD 0 0) / 4 % 4).toNat).getD 3 0), (([(l.getD 4 0), (l.getD 5 0), (l.getD 6 0), (l.getD 7 0)].take (4 - (l.getD 0 0) / 4 % 4).toNat).getD 4 0), (([(l.getD 4 0), (l.getD 5 0), (l.getD 6 0), (l.getD 7 0)].take (4 - (l.getD 0 0) / 4 % 4).toNat).getD 5 0), (([(l.getD 4 0), (l.getD 5 0), (l.getD 6 0), (l.getD 7 0)].take (4 - (l.getD 0 0) / 4 % 4).toNat).getD 6 0), 0, 0, 0, 0, 0⟩ := by unfold getM; rw [if_pos rfl, if_pos hf]
      rw [e]
      exact get_1_yes (l.getD 0 0) (l.getD 1 0) (l.getD 2 0) (l.getD 3 0) (l.getD 4 0) (l.getD 5 0) (l.getD 6 0) (l.getD 7 0) hr hf w
    · have e : getM 1 l = ⟨1, ((l.getD 1 0) + 256 * (l.getD 2 0)), ((l.getD 3 0)), false, false, (false), false, (gsN (decide ((l.getD 0 0) % 2 = 1)) 0 [(l.getD 4 0), (l.getD 5 0), (l.getD 6 0), (l.getD 7 0)]), 0, 0, 0, 0, 0, 0, 0, 0, 0, 0, 0, 0, 0⟩ := by unfold getM; rw [if_pos rfl, if_neg hf]
      rw [e]
      exact get_1_no (l.getD 0 0) (l.getD 1 0) (l.getD 2 0) (l.getD 3 0) (l.getD 4 0) (l.getD 5 0) (l.getD 6 0) (l.getD 7 0) hr hf w
  · exact get_2 (l.getD 0 0) (l.getD 1 0) (l.getD 2 0) (l.getD 3 0) (l.getD 4 0) (l.getD 5 0) (l.getD 6 0) (l.getD 7 0) hr w
  · exact get_3 (l.getD 0 0) (l.getD 1 0) (l.getD 2 0) (l.getD 3 0) (l.getD 4 0) (l.getD 5 0) (l.getD 6 0) (l.getD 7 0) hr w
  · exact get_4 (l.getD 0 0) (l.getD 1 0) (l.getD 2 0) (l.getD 3 0) (l.getD 4 0) (l.getD 5 0) (l.getD 6 0) (l.getD 7 0) hr w
  · exact get_5 (l.getD 0 0) (l.getD 1 0) (l.getD 2 0) (l.getD 3 0) (l.getD 4 0) (l.getD 5 0) (l.getD 6 0) (l.getD 7 0) hr w
  · exact get_6 (l.getD 0 0) (l.getD 1 0) (l.getD 2 0) (l.getD 3 0) (l.getD 4 0) (l.getD 5 0) (l.getD 6 0) (l.getD 7 0) hr w
  · exact get_7 (l.getD 0 0) (l.getD 1 0) (l.getD 2 0) (l.getD 3 0) (l.getD 4 0) (l.getD 5 0) (l.getD 6 0) (l.getD 7 0) hr w
  · exact get_8 (l.getD 0 0) (l.getD 1 0) (l.getD 2 0) (l.getD 3 0) (l.getD 4 0) (l.getD 5 0) (l.getD 6 0) (l.getD 7 0) hr w
  · exact get_9 (l.getD 0 0) (l.getD 1 0) (l.getD 2 0) (l.getD 3 0) (l.getD 4 0) (l.getD 5 0) (l.getD 6 0) (l.getD 7 0) hr w
  · by_cases hf : l.getD 0 0 / 2 % 2 = 1
    · have e : getM 10 l = ⟨10, ((l.getD 1 0) + 256 * (l.getD 2 0)), ((l.getD 3 0)), false, false, (true), false, 0, (4 - (l.getD 0 0) / 4 % 4), (([(l.getD 4 0), (l.getD 5 0), (l.getD 6 0), (l.getD 7 0)].take (4 - (l.getD 0 0) / 4 % 4).toNat).getD 0 0), (([(l.getD 4 0), (l.getD 5 0), (l.getD 6 0), (l.getD 7 0)].take (4 - (l.getD 0 0) / 4 % 4).toNat).getD 1 0), (([(l.getD 4 0), (l.getD 5 0), (l.getD 6 0), (l.getD 7 0)].take (4 - (l.getD 0 0) / 4 % 4).toNat).getD 2 0), (([(l.getD 4 0), (l.getD 5 0), (l.getD 6 0), (l.getD 7 0)].take (4 - (l.getD 0 0) / 4 % 4).toNat).getD 3 0), (([(l.getD 4 0), (l.getD 5 0), (l.getD 6 0), (l.getD 7 0)].take (4 - (l.getD 0 0) / 4 % 4).toNat).getD 4 0), (([(l.getD 4 0), (l.getD 5 0), (l.getD 6 0), (l.getD 7 0)].take (4 - (l.getD 0 0) / 4 % 4).toNat).getD 5 0), (([(l.getD 4 0), (l.getD 5 0), (l.getD 6 0), (l.getD 7 0)].take (4 - (l.getD 0 0) / 4 % 4).toNat).getD 6 0), 0, 0, 0, 0, 0⟩ := by unfold getM; rw [if_neg (by decide), if_pos rfl, if_pos hf]
      rw [e]
      exact get_10_yes (l.getD 0 0) (l.getD 1 0) (l.getD 2 0) (l.getD 3 0) (l.getD 4 0) (l.getD 5 0) (l.getD 6 0) (l.getD 7 0) hr hf w
    · have e : getM 10 l = ⟨10, ((l.getD 1 0) + 256 * (l.getD 2 0)), ((l.getD 3 0)), false, false, (false), false, (gsN (decide ((l.getD 0 0) % 2 = 1)) 0 [(l.getD 4 0), (l.getD 5 0), (l.getD 6 0), (l.getD 7 0)]), 0, 0, 0, 0, 0, 0, 0, 0, 0, 0, 0, 0, 0⟩ := by unfold getM; rw [if_neg (by decide), if_pos rfl, if_neg hf]
      rw [e]
      exact get_10_no (l.getD 0 0) (l.getD 1 0) (l.getD 2 0) (l.getD 3 0) (l.getD 4 0) (l.getD 5 0) (l.getD 6 0) (l.getD 7 0) hr hf w
  · exact get_11 (l.getD 0 0) (l.getD 1 0) (l.getD 2 0) (l.getD 3 0) (l.getD 4 0) (l.getD 5 0) (l.getD 6 0) (l.getD 7 0) hr w
  · exact get_12 (l.getD 0 0) (l.getD 1 0) (l.getD 2 0) (l.getD 3 0) (l.getD 4 0) (l.getD 5 0) (l.getD 6 0) (l.getD 7 0) hr w
  · exact get_13 (l.getD 0 0) (l.getD 1 0) (l.getD 2 0) (l.getD 3 0) (l.getD 4 0) (l.getD 5 0) (l.getD 6 0) (l.getD 7 0) hr w
  · exact get_14 (l.getD 0 0) (l.getD 1 0) (l.getD 2 0) (l.getD 3 0) (l.getD 4 0) (l.getD 5 0) (l.getD 6 0) (l.getD 7 0) hr w
  · exact get_15 (l.getD 0 0) (l.getD 1 0) (l.getD 2 0) (l.getD 3 0) (l.getD 4 0) (l.getD 5 0) (l.getD 6 0) (l.getD 7 0) hr w
  · exact get_16 (l.getD 0 0) (l.getD 1 0) (l.getD 2 0) (l.getD 3 0) (l.getD 4 0) (l.getD 5 0) (l.getD 6 0) (l.getD 7 0) hr w
  · exact get_17 (l.getD 0 0) (l.getD 1 0) (l.getD 2 0) (l.getD 3 0) (l.getD 4 0) (l.getD 5 0) (l.getD 6 0) (l.getD 7 0) hr w
end Go.Proofs.Ytoamgdcjmkkmfaa
