/- Frames held against each other; what both Checks answer. -/
import Derived.Test.YtllaajkpobpeiaaOJFrameB
import Derived.ChangeKeysEq
namespace Go.Proofs.Ytllaajkpobpeiaa
open Go.RowKit
theorem held_frame : Try.prog.stoodInHeld 57 = false := by kernel_rfl
theorem und_frame : Try.prog.underlying 57 = some (.struct (Try.prog.fieldsOf 57)) := by kernel_rfl
theorem fields_frame : (Try.prog.fieldsOf 57).toList = [⟨"Id", 3, 0, false, "", "", 0⟩, ⟨"Rtr", 4, 1, false, "", "", 8⟩, ⟨"Len", 3, 2, false, "", "", 16⟩, ⟨"Data", 37, 3, false, "", "", 24⟩] := by kernel_rfl
theorem cells_byte : Try.prog.cellsOf 5 = 1 := by kernel_rfl
theorem info_data : (Try.prog.info? 37).map (·.size) = some 8 := by kernel_rfl
theorem part_data (w : World) (cs : Array Value) : (part 37 cs 3).run Try.prog w = .ok (.agg (cs.extract 3 11)) w := by
  simp [part, isAgg, run_underlying Try.underlying37]
theorem part_int (w : World) (cs : Array Value) (o : Nat) (v : Value) (h : cs[o]? = some v) : (part 3 cs o).run Try.prog w = .ok v w := run_part_plain w (by kernel_rfl) h
theorem part_bool (w : World) (cs : Array Value) (o : Nat) (v : Value) (h : cs[o]? = some v) : (part 4 cs o).run Try.prog w = .ok v w := run_part_plain w (by kernel_rfl) h
theorem part_byte (w : World) (cs : Array Value) (o : Nat) (v : Value) (h : cs[o]? = some v) : (part 5 cs o).run Try.prog w = .ok v w := run_part_plain w (by kernel_rfl) h
def eqD (a b : Nat → Int) : Bool := decide (a 0 = b 0 ∧ a 1 = b 1 ∧ a 2 = b 2 ∧ a 3 = b 3 ∧ a 4 = b 4 ∧ a 5 = b 5 ∧ a 6 = b 6 ∧ a 7 = b 7)
theorem run_eq_data (w : World) (n : Nat) (d d' : Nat → Int) : (Op.equalIn (n + 2) 37 (.agg #[.int .u8 (d 0), .int .u8 (d 1), .int .u8 (d 2), .int .u8 (d 3), .int .u8 (d 4), .int .u8 (d 5), .int .u8 (d 6), .int .u8 (d 7)]) (.agg #[.int .u8 (d' 0), .int .u8 (d' 1), .int .u8 (d' 2), .int .u8 (d' 3), .int .u8 (d' 4), .int .u8 (d' 5), .int .u8 (d' 6), .int .u8 (d' 7)])).run Try.prog w = .ok (eqD d d') w := by
  obtain ⟨i, hi⟩ : ∃ i, Try.prog.info? 5 = some i := by
    cases h : Try.prog.info? 5 with
    | none => exact absurd (show (Try.prog.info? 5).isSome = true by kernel_rfl) (by simp [h])
    | some i => exact ⟨i, rfl⟩
  rw [run_equalIn_array w (n + 1) _ _ Try.underlying37 hi, cells_byte]
  simp only [show List.range 8 = [0, 1, 2, 3, 4, 5, 6, 7] from rfl, Op.eqItems, Sem.run_bind, Nat.mul_one]
  simp [part_byte, run_equalIn_int w n 5 _ _ _ _ Try.underlying5, Sem.run_ite, Result.andThen_ok]
  unfold eqD
  (repeat' split) <;> simp_all
/-- Two frames are held against each other. -/
theorem run_eq_frames (w : World) (id id' n n' : Int) (r r' : Bool) (d d' : Nat → Int) : (Op.equalIn 10000 57 (.agg #[.int .i64 id, .bool r, .int .i64 n, .int .u8 (d 0), .int .u8 (d 1), .int .u8 (d 2), .int .u8 (d 3), .int .u8 (d 4), .int .u8 (d 5), .int .u8 (d 6), .int .u8 (d 7)]) (.agg #[.int .i64 id', .bool r', .int .i64 n', .int .u8 (d' 0), .int .u8 (d' 1), .int .u8 (d' 2), .int .u8 (d' 3), .int .u8 (d' 4), .int .u8 (d' 5), .int .u8 (d' 6), .int .u8 (d' 7)])).run Try.prog w = .ok (decide (id = id' ∧ r = r' ∧ n = n') && eqD d d') w := by
  rw [run_equalIn_struct w 9999 57 _ _ und_frame held_frame, fields_frame]
  have h22 := run_eq_data w 9997 d d'
  simp [Op.eqFields, Sem.run_bind, part_int, part_bool, part_data, run_equalIn_int w 9998 3 _ _ _ _ Try.underlying3, run_equalIn_bool w 9998 4 _ _ Try.underlying4, Sem.run_ite, Result.andThen_ok, h22]
  (repeat' split) <;> simp_all
theorem run_eq_alike (w : World) (id n : Int) (r : Bool) (d d' : Nat → Int) : (Op.equalIn 10000 57 (.agg #[.int .i64 id, .bool r, .int .i64 n, .int .u8 (d 0), .int .u8 (d 1), .int .u8 (d 2), .int .u8 (d 3), .int .u8 (d 4), .int .u8 (d 5), .int .u8 (d 6), .int .u8 (d 7)]) (.agg #[.int .i64 id, .bool r, .int .i64 n, .int .u8 (d' 0), .int .u8 (d' 1), .int .u8 (d' 2), .int .u8 (d' 3), .int .u8 (d' 4), .int .u8 (d' 5), .int .u8 (d' 6), .int .u8 (d' 7)])).run Try.prog w = .ok (eqD d d') w := by rw [run_eq_frames]; simp

/-- What Check answers. -/
def chk (id : Int) (r : Bool) (n : Int) (d : Nat → Int) : Int := if id < 0 ∨ 2047 < id then 3 else if n < 0 ∨ 8 < n then 11 else if eqD d (cut d (kOf r n)) = true then 0 else 4
theorem check_any (id n : Int) (r : Bool) (d : Nat → Int) (w : World) :
    Calls Try.prog 62 #[.agg #[.int .i64 id, .bool r, .int .i64 n, .int .u8 (d 0), .int .u8 (d 1), .int .u8 (d 2), .int .u8 (d 3), .int .u8 (d 4), .int .u8 (d 5), .int .u8 (d 6), .int .u8 (d 7)]] w fun e w' => e = .returned (.int .i64 (chk id r n d)) ∧ Below w.heap.size w w' := by
  have hb : Below w.heap.size w (w.alloc (.cells #[.int .i64 id, .bool r, .int .i64 n, .int .u8 (d 0), .int .u8 (d 1), .int .u8 (d 2), .int .u8 (d 3), .int .u8 (d 4), .int .u8 (d 5), .int .u8 (d 6), .int .u8 (d 7)] 57)) := (Below.refl _ _).alloc (Nat.le_refl _) _
  by_cases h1 : id < 0 ∨ 2047 < id
  · have e : chk id r n d = 3 := if_pos h1
    rw [e]
    have HB := Lib.hid hb
    clear hb
    go_enter Try.func62, Try.ntmps62
    go_wp2_with fail
    all_goals first | (exfalso; omega) | exact bodyPost_ret (results_tmp rfl _ _ _) rfl ⟨rfl, HB.out⟩
  have h1a : ¬ id < 0 := by omega
  have h1b : ¬ 2047 < id := by omega
  by_cases h2 : n < 0 ∨ 8 < n
  · have e : chk id r n d = 11 := (if_neg h1).trans (if_pos h2)
    rw [e]
    have HB := Lib.hid hb
    clear hb h1
    go_enter Try.func62, Try.ntmps62
    go_wp2_with fail
    all_goals first | (exfalso; omega) | exact bodyPost_ret (results_tmp rfl _ _ _) rfl ⟨rfl, HB.out⟩
  have e : chk id r n d = if eqD d (cut d (kOf r n)) = true then 0 else 4 := (if_neg h1).trans (if_neg h2)
  have h2a : ¬ n < 0 := by omega
  have h2b : ¬ 8 < n := by omega
  have h0 : 0 ≤ n := by omega
  have h8 : n ≤ 8 := by omega
  have hcm := fun w => run_eq_alike w id n r d (cut d (kOf r n))
  obtain ⟨q, hq⟩ : ∃ q, eqD d (cut d (kOf r n)) = q := ⟨_, rfl⟩
  simp only [hq] at hcm e
  obtain ⟨R, hR⟩ : ∃ R : Int, (if q = true then (0 : Int) else 4) = R := ⟨_, rfl⟩
  rw [e, hR]
  have HR := Lib.hid hR
  have hf := frame_new w id n r d
  have hs : w.heap.size < (w.alloc (.cells #[.int .i64 id, .bool r, .int .i64 n, .int .u8 (d 0), .int .u8 (d 1), .int .u8 (d 2), .int .u8 (d 3), .int .u8 (d 4), .int .u8 (d 5), .int .u8 (d 6), .int .u8 (d 7)] 57)).heap.size := by simp
  have HB := Lib.hid hb
  have HF := Lib.hid hf
  have HS := Lib.hid hs
  have hca := fun w => cleared_any id n r d w h0 h8
  have HCA := Lib.hid hca
  have HCM := Lib.hid hcm
  clear hb h1 h2 e hf hs hca hcm hq hR
  go_enter Try.func62, Try.ntmps62
  go_wp2_with fail
  generalize (w.alloc (Obj.cells #[Value.int IntKind.i64 id, Value.bool r, Value.int IntKind.i64 n, Value.int IntKind.u8 (d 0), Value.int IntKind.u8 (d 1), Value.int IntKind.u8 (d 2), Value.int IntKind.u8 (d 3), Value.int IntKind.u8 (d 4), Value.int IntKind.u8 (d 5), Value.int IntKind.u8 (d 6), Value.int IntKind.u8 (d 7)] 57)) = w0 at HB HF HS
  have hc0 := HF.out.cells
  have hcm := HCM.out
  go_region_held3 (fun w' => w'.cell? ⟨w.heap.size, 0, none⟩ = some (.int .i64 id) ∧ w'.cell? ⟨w.heap.size, 1, none⟩ = some (.bool r) ∧ w'.cell? ⟨w.heap.size, 2, none⟩ = some (.int .i64 n) ∧ w'.cell? ⟨w.heap.size, 3, none⟩ = some (.int .u8 (d 0)) ∧ w'.cell? ⟨w.heap.size, 4, none⟩ = some (.int .u8 (d 1)) ∧ w'.cell? ⟨w.heap.size, 5, none⟩ = some (.int .u8 (d 2)) ∧ w'.cell? ⟨w.heap.size, 6, none⟩ = some (.int .u8 (d 3)) ∧ w'.cell? ⟨w.heap.size, 7, none⟩ = some (.int .u8 (d 4)) ∧ w'.cell? ⟨w.heap.size, 8, none⟩ = some (.int .u8 (d 5)) ∧ w'.cell? ⟨w.heap.size, 9, none⟩ = some (.int .u8 (d 6)) ∧ w'.cell? ⟨w.heap.size, 10, none⟩ = some (.int .u8 (d 7)))
    (first | exact hc0 | exact k1)
    (first
      | (go_at_call 77
         refine (HCA.out _).mono ?_
         rintro e w1 ⟨rfl, hb1⟩
         have hf1 := FrAt.below (w := w0.drew) HF.out hb1 HS.out
         have k1 := hf1.cells
         have hbw1 := HB.out.drew.trans (hb1.mono HB.out.size)))
  clear hcm HCM k1
  cases q
  all_goals (go_wp2_with fail; (have hr : R = _ := HR.out.symm); simp at hr; subst hr; exact bodyPost_ret (results_tmp rfl _ _ _) rfl ⟨rfl, hbw1⟩)
end Go.Proofs.Ytllaajkpobpeiaa