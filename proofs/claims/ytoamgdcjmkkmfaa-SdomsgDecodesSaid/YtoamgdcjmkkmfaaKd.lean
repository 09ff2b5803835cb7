/- What head answers: regions that draw their order. -/
import Derived.Test.YtoamgdcjmkkmfaaKc
import Derived.Deep.QuietTactic
import Derived.BigQuiet
namespace Go.Proofs.Ytoamgdcjmkkmfaa
open Go.RowKit
set_option linter.unusedSimpArgs false
set_option linter.unusedVariables false
set_option maxHeartbeats 4000000
theorem head_2 (c ki ks : Int) (tg la fa su : Bool) (sz n d0 d1 d2 d3 d4 d5 d6 co sq bl sp cr : Int) (hk : canE c fa n sq bl sp = true) (hc : c = 2) (w : World) :
    Calls Try.prog 37 #[.agg #[.int .i64 c, .int .i64 ki, .int .i64 ks, .bool tg, .bool la, .bool fa, .bool su, .int .i64 sz, .int .i64 n, .int .u8 d0, .int .u8 d1, .int .u8 d2, .int .u8 d3, .int .u8 d4, .int .u8 d5, .int .u8 d6, .int .i64 co, .int .i64 sq, .int .i64 bl, .int .i64 sp, .int .i64 cr]] w fun e w' => e = .returned (.int .i64 (headE c tg la fa su sz n sp)) ∧ Below w.heap.size w w' := by
  subst hc
  have h : 0 ≤ n ∧ n ≤ 7 := by simpa [canE, inB] using hk
  clear hk
  obtain rfl | rfl | rfl | rfl | rfl | rfl | rfl | rfl : n = 0 ∨ n = 1 ∨ n = 2 ∨ n = 3 ∨ n = 4 ∨ n = 5 ∨ n = 6 ∨ n = 7 := by omega
  all_goals clear h; cases tg <;> cases la
  all_goals
    go_enter Try.func37, Try.ntmps37
    go_wp2_with (fail)
    go_quiet ((go_at_call 47; exact Calls.quiet_of_same ((bit_any _ _ _).mono fun e w2 h => ⟨h.1, h.2.symm⟩)))
    all_goals go_wp2
    all_goals (go_ret; refine ⟨?_, below_drewN ((Below.refl _ _).alloc (Nat.le_refl _) _) _⟩; first | rfl | (apply ret_int; simp [headE, begunE, bitN, *]; try (unfold wrap64; omega)))
theorem head_11 (c ki ks : Int) (tg la fa su : Bool) (sz n d0 d1 d2 d3 d4 d5 d6 co sq bl sp cr : Int) (hk : canE c fa n sq bl sp = true) (hc : c = 11) (w : World) :
    Calls Try.prog 37 #[.agg #[.int .i64 c, .int .i64 ki, .int .i64 ks, .bool tg, .bool la, .bool fa, .bool su, .int .i64 sz, .int .i64 n, .int .u8 d0, .int .u8 d1, .int .u8 d2, .int .u8 d3, .int .u8 d4, .int .u8 d5, .int .u8 d6, .int .i64 co, .int .i64 sq, .int .i64 bl, .int .i64 sp, .int .i64 cr]] w fun e w' => e = .returned (.int .i64 (headE c tg la fa su sz n sp)) ∧ Below w.heap.size w w' := by
  subst hc
  have h : 0 ≤ n ∧ n ≤ 7 := by simpa [canE, inB] using hk
  clear hk
  obtain rfl | rfl | rfl | rfl | rfl | rfl | rfl | rfl : n = 0 ∨ n = 1 ∨ n = 2 ∨ n = 3 ∨ n = 4 ∨ n = 5 ∨ n = 6 ∨ n = 7 := by omega
  all_goals clear h; cases tg <;> cases la
  all_goals
    go_enter Try.func37, Try.ntmps37
    go_wp2_with (fail)
    go_quiet ((go_at_call 47; exact Calls.quiet_of_same ((bit_any _ _ _).mono fun e w2 h => ⟨h.1, h.2.symm⟩)))
    all_goals go_wp2
    all_goals (go_ret; refine ⟨?_, below_drewN ((Below.refl _ _).alloc (Nat.le_refl _) _) _⟩; first | rfl | (apply ret_int; simp [headE, begunE, bitN, *]; try (unfold wrap64; omega)))
theorem head_5 (c ki ks : Int) (tg la fa su : Bool) (sz n d0 d1 d2 d3 d4 d5 d6 co sq bl sp cr : Int) (hk : canE c fa n sq bl sp = true) (hc : c = 5) (w : World) :
    Calls Try.prog 37 #[.agg #[.int .i64 c, .int .i64 ki, .int .i64 ks, .bool tg, .bool la, .bool fa, .bool su, .int .i64 sz, .int .i64 n, .int .u8 d0, .int .u8 d1, .int .u8 d2, .int .u8 d3, .int .u8 d4, .int .u8 d5, .int .u8 d6, .int .i64 co, .int .i64 sq, .int .i64 bl, .int .i64 sp, .int .i64 cr]] w fun e w' => e = .returned (.int .i64 (headE c tg la fa su sz n sp)) ∧ Below w.heap.size w w' := by
  subst hc
  clear hk
  cases su <;> (by_cases hz : sz = -1)
  all_goals
    go_enter Try.func37, Try.ntmps37
    go_wp2_with (fail)
    go_quiet ((go_at_call 47; exact Calls.quiet_of_same ((bit_any _ _ _).mono fun e w2 h => ⟨h.1, h.2.symm⟩)))
    all_goals go_wp2
    all_goals (go_ret; refine ⟨?_, below_drewN ((Below.refl _ _).alloc (Nat.le_refl _) _) _⟩; first | rfl | (apply ret_int; simp [headE, begunE, bitN, *]; try (unfold wrap64; omega)))
theorem head_13 (c ki ks : Int) (tg la fa su : Bool) (sz n d0 d1 d2 d3 d4 d5 d6 co sq bl sp cr : Int) (hk : canE c fa n sq bl sp = true) (hc : c = 13) (w : World) :
    Calls Try.prog 37 #[.agg #[.int .i64 c, .int .i64 ki, .int .i64 ks, .bool tg, .bool la, .bool fa, .bool su, .int .i64 sz, .int .i64 n, .int .u8 d0, .int .u8 d1, .int .u8 d2, .int .u8 d3, .int .u8 d4, .int .u8 d5, .int .u8 d6, .int .i64 co, .int .i64 sq, .int .i64 bl, .int .i64 sp, .int .i64 cr]] w fun e w' => e = .returned (.int .i64 (headE c tg la fa su sz n sp)) ∧ Below w.heap.size w w' := by
  subst hc
  clear hk
  cases su <;> (by_cases hz : sz = -1)
  all_goals
    go_enter Try.func37, Try.ntmps37
    go_wp2_with (fail)
    go_quiet ((go_at_call 47; exact Calls.quiet_of_same ((bit_any _ _ _).mono fun e w2 h => ⟨h.1, h.2.symm⟩)))
    all_goals go_wp2
    all_goals (go_ret; refine ⟨?_, below_drewN ((Below.refl _ _).alloc (Nat.le_refl _) _) _⟩; first | rfl | (apply ret_int; simp [headE, begunE, bitN, *]; try (unfold wrap64; omega)))
end Go.Proofs.Ytoamgdcjmkkmfaa
