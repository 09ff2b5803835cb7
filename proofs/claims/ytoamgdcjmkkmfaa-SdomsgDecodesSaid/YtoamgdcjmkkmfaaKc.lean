/- What begun and head answer. -/
import Derived.Test.YtoamgdcjmkkmfaaKb
namespace Go.Proofs.Ytoamgdcjmkkmfaa
open Go.RowKit
set_option linter.unusedSimpArgs false
set_option linter.unusedVariables false
set_option maxHeartbeats 4000000

def begunE (fa : Bool) (sz n : Int) : Int := if fa then 3 + (4 - n) * 4 else bitN (decide (¬ sz = -1)) 1
/-- The first byte. -/
def headE (c : Int) (tg la fa su : Bool) (sz n sp : Int) : Int :=
  if c = 1 then 32 + begunE fa sz n else if c = 10 then 64 + begunE fa sz n
  else if c = 2 ∨ c = 11 then bitN tg 16 + (7 - n) * 2 + bitN la 1
  else if c = 4 then 96 + bitN tg 16 else if c = 9 then 32 + bitN tg 16
  else if c = 5 ∨ c = 13 then 192 + bitN su 4 + bitN (decide (¬ sz = -1)) 2
  else if c = 6 ∨ c = 12 then 160 + bitN su 4 else if c = 16 then 193 + sp * 4
  else if c = 3 then 64 else if c = 8 then 96 else if c = 14 then 128 else if c = 17 then 161 else if c = 15 then 162 else if c = 7 then 163 else 0
theorem begun_any (c ki ks : Int) (tg la fa su : Bool) (sz n d0 d1 d2 d3 d4 d5 d6 co sq bl sp cr : Int) (hn : fa = true → 1 ≤ n ∧ n ≤ 4) (w : World) :
    Calls Try.prog 46 #[.agg #[.int .i64 c, .int .i64 ki, .int .i64 ks, .bool tg, .bool la, .bool fa, .bool su, .int .i64 sz, .int .i64 n, .int .u8 d0, .int .u8 d1, .int .u8 d2, .int .u8 d3, .int .u8 d4, .int .u8 d5, .int .u8 d6, .int .i64 co, .int .i64 sq, .int .i64 bl, .int .i64 sp, .int .i64 cr]] w fun e w' => e = .returned (.int .i64 (begunE fa sz n)) ∧ Below w.heap.size w w' := by
  cases fa
  · clear hn
    by_cases hz : sz = -1
    all_goals
      go_enter Try.func46, Try.ntmps46
      go_wp2_with (go_at_call 47; refine (bit_any _ _ _).mono ?_; rintro e w1 ⟨rfl, rfl⟩)
      all_goals (go_ret; refine ⟨?_, (Below.refl _ _).alloc (Nat.le_refl _) _⟩; first | rfl | (apply ret_int; simp [begunE, bitN, hz]; try rfl))
  · have hn := hn rfl
    obtain rfl | rfl | rfl | rfl : n = 1 ∨ n = 2 ∨ n = 3 ∨ n = 4 := by omega
    all_goals
      clear hn
      go_enter Try.func46, Try.ntmps46
      go_wp2_with fail
      all_goals (go_ret; exact ⟨rfl, (Below.refl _ _).alloc (Nat.le_refl _) _⟩)
theorem head_3 (c ki ks : Int) (tg la fa su : Bool) (sz n d0 d1 d2 d3 d4 d5 d6 co sq bl sp cr : Int) (hk : canE c fa n sq bl sp = true) (hc : c = 3) (w : World) :
    Calls Try.prog 37 #[.agg #[.int .i64 c, .int .i64 ki, .int .i64 ks, .bool tg, .bool la, .bool fa, .bool su, .int .i64 sz, .int .i64 n, .int .u8 d0, .int .u8 d1, .int .u8 d2, .int .u8 d3, .int .u8 d4, .int .u8 d5, .int .u8 d6, .int .i64 co, .int .i64 sq, .int .i64 bl, .int .i64 sp, .int .i64 cr]] w fun e w' => e = .returned (.int .i64 (headE c tg la fa su sz n sp)) ∧ Below w.heap.size w w' := by
  subst hc
  clear hk
  all_goals
    go_enter Try.func37, Try.ntmps37
    go_wp2_with (fail)
    all_goals (go_ret; refine ⟨?_, (Below.refl _ _).alloc (Nat.le_refl _) _⟩; first | rfl | (apply ret_int; simp [headE, begunE, bitN, *]; try (unfold wrap64; omega)))
theorem head_7 (c ki ks : Int) (tg la fa su : Bool) (sz n d0 d1 d2 d3 d4 d5 d6 co sq bl sp cr : Int) (hk : canE c fa n sq bl sp = true) (hc : c = 7) (w : World) :
    Calls Try.prog 37 #[.agg #[.int .i64 c, .int .i64 ki, .int .i64 ks, .bool tg, .bool la, .bool fa, .bool su, .int .i64 sz, .int .i64 n, .int .u8 d0, .int .u8 d1, .int .u8 d2, .int .u8 d3, .int .u8 d4, .int .u8 d5, .int .u8 d6, .int .i64 co, .int .i64 sq, .int .i64 bl, .int .i64 sp, .int .i64 cr]] w fun e w' => e = .returned (.int .i64 (headE c tg la fa su sz n sp)) ∧ Below w.heap.size w w' := by
  subst hc
  clear hk
  all_goals
    go_enter Try.func37, Try.ntmps37
    go_wp2_with (fail)
    all_goals (go_ret; refine ⟨?_, (Below.refl _ _).alloc (Nat.le_refl _) _⟩; first | rfl | (apply ret_int; simp [headE, begunE, bitN, *]; try (unfold wrap64; omega)))
theorem head_8 (c ki ks : Int) (tg la fa su : Bool) (sz n d0 d1 d2 d3 d4 d5 d6 co sq bl sp cr : Int) (hk : canE c fa n sq bl sp = true) (hc : c = 8) (w : World) :
    Calls Try.prog 37 #[.agg #[.int .i64 c, .int .i64 ki, .int .i64 ks, .bool tg, .bool la, .bool fa, .bool su, .int .i64 sz, .int .i64 n, .int .u8 d0, .int .u8 d1, .int .u8 d2, .int .u8 d3, .int .u8 d4, .int .u8 d5, .int .u8 d6, .int .i64 co, .int .i64 sq, .int .i64 bl, .int .i64 sp, .int .i64 cr]] w fun e w' => e = .returned (.int .i64 (headE c tg la fa su sz n sp)) ∧ Below w.heap.size w w' := by
  subst hc
  clear hk
  all_goals
    go_enter Try.func37, Try.ntmps37
    go_wp2_with (fail)
    all_goals (go_ret; refine ⟨?_, (Below.refl _ _).alloc (Nat.le_refl _) _⟩; first | rfl | (apply ret_int; simp [headE, begunE, bitN, *]; try (unfold wrap64; omega)))
theorem head_14 (c ki ks : Int) (tg la fa su : Bool) (sz n d0 d1 d2 d3 d4 d5 d6 co sq bl sp cr : Int) (hk : canE c fa n sq bl sp = true) (hc : c = 14) (w : World) :
    Calls Try.prog 37 #[.agg #[.int .i64 c, .int .i64 ki, .int .i64 ks, .bool tg, .bool la, .bool fa, .bool su, .int .i64 sz, .int .i64 n, .int .u8 d0, .int .u8 d1, .int .u8 d2, .int .u8 d3, .int .u8 d4, .int .u8 d5, .int .u8 d6, .int .i64 co, .int .i64 sq, .int .i64 bl, .int .i64 sp, .int .i64 cr]] w fun e w' => e = .returned (.int .i64 (headE c tg la fa su sz n sp)) ∧ Below w.heap.size w w' := by
  subst hc
  clear hk
  all_goals
    go_enter Try.func37, Try.ntmps37
    go_wp2_with (fail)
    all_goals (go_ret; refine ⟨?_, (Below.refl _ _).alloc (Nat.le_refl _) _⟩; first | rfl | (apply ret_int; simp [headE, begunE, bitN, *]; try (unfold wrap64; omega)))
theorem head_15 (c ki ks : Int) (tg la fa su : Bool) (sz n d0 d1 d2 d3 d4 d5 d6 co sq bl sp cr : Int) (hk : canE c fa n sq bl sp = true) (hc : c = 15) (w : World) :
    Calls Try.prog 37 #[.agg #[.int .i64 c, .int .i64 ki, .int .i64 ks, .bool tg, .bool la, .bool fa, .bool su, .int .i64 sz, .int .i64 n, .int .u8 d0, .int .u8 d1, .int .u8 d2, .int .u8 d3, .int .u8 d4, .int .u8 d5, .int .u8 d6, .int .i64 co, .int .i64 sq, .int .i64 bl, .int .i64 sp, .int .i64 cr]] w fun e w' => e = .returned (.int .i64 (headE c tg la fa su sz n sp)) ∧ Below w.heap.size w w' := by
  subst hc
  clear hk
  all_goals
    go_enter Try.func37, Try.ntmps37
    go_wp2_with (fail)
    all_goals (go_ret; refine ⟨?_, (Below.refl _ _).alloc (Nat.le_refl _) _⟩; first | rfl | (apply ret_int; simp [headE, begunE, bitN, *]; try (unfold wrap64; omega)))
theorem head_17 (c ki ks : Int) (tg la fa su : Bool) (sz n d0 d1 d2 d3 d4 d5 d6 co sq bl sp cr : Int) (hk : canE c fa n sq bl sp = true) (hc : c = 17) (w : World) :
    Calls Try.prog 37 #[.agg #[.int .i64 c, .int .i64 ki, .int .i64 ks, .bool tg, .bool la, .bool fa, .bool su, .int .i64 sz, .int .i64 n, .int .u8 d0, .int .u8 d1, .int .u8 d2, .int .u8 d3, .int .u8 d4, .int .u8 d5, .int .u8 d6, .int .i64 co, .int .i64 sq, .int .i64 bl, .int .i64 sp, .int .i64 cr]] w fun e w' => e = .returned (.int .i64 (headE c tg la fa su sz n sp)) ∧ Below w.heap.size w w' := by
  subst hc
  clear hk
  all_goals
    go_enter Try.func37, Try.ntmps37
    go_wp2_with (fail)
    all_goals (go_ret; refine ⟨?_, (Below.refl _ _).alloc (Nat.le_refl _) _⟩; first | rfl | (apply ret_int; simp [headE, begunE, bitN, *]; try (unfold wrap64; omega)))
theorem head_4 (c ki ks : Int) (tg la fa su : Bool) (sz n d0 d1 d2 d3 d4 d5 d6 co sq bl sp cr : Int) (hk : canE c fa n sq bl sp = true) (hc : c = 4) (w : World) :
    Calls Try.prog 37 #[.agg #[.int .i64 c, .int .i64 ki, .int .i64 ks, .bool tg, .bool la, .bool fa, .bool su, .int .i64 sz, .int .i64 n, .int .u8 d0, .int .u8 d1, .int .u8 d2, .int .u8 d3, .int .u8 d4, .int .u8 d5, .int .u8 d6, .int .i64 co, .int .i64 sq, .int .i64 bl, .int .i64 sp, .int .i64 cr]] w fun e w' => e = .returned (.int .i64 (headE c tg la fa su sz n sp)) ∧ Below w.heap.size w w' := by
  subst hc
  clear hk
  cases tg
  all_goals
    go_enter Try.func37, Try.ntmps37
    go_wp2_with (go_at_call 47; refine (bit_any _ _ _).mono ?_; rintro e w1 ⟨rfl, rfl⟩)
    all_goals (go_ret; refine ⟨?_, (Below.refl _ _).alloc (Nat.le_refl _) _⟩; first | rfl | (apply ret_int; simp [headE, begunE, bitN, *]; try (unfold wrap64; omega)))
theorem head_9 (c ki ks : Int) (tg la fa su : Bool) (sz n d0 d1 d2 d3 d4 d5 d6 co sq bl sp cr : Int) (hk : canE c fa n sq bl sp = true) (hc : c = 9) (w : World) :
    Calls Try.prog 37 #[.agg #[.int .i64 c, .int .i64 ki, .int .i64 ks, .bool tg, .bool la, .bool fa, .bool su, .int .i64 sz, .int .i64 n, .int .u8 d0, .int .u8 d1, .int .u8 d2, .int .u8 d3, .int .u8 d4, .int .u8 d5, .int .u8 d6, .int .i64 co, .int .i64 sq, .int .i64 bl, .int .i64 sp, .int .i64 cr]] w fun e w' => e = .returned (.int .i64 (headE c tg la fa su sz n sp)) ∧ Below w.heap.size w w' := by
  subst hc
  clear hk
  cases tg
  all_goals
    go_enter Try.func37, Try.ntmps37
    go_wp2_with (go_at_call 47; refine (bit_any _ _ _).mono ?_; rintro e w1 ⟨rfl, rfl⟩)
    all_goals (go_ret; refine ⟨?_, (Below.refl _ _).alloc (Nat.le_refl _) _⟩; first | rfl | (apply ret_int; simp [headE, begunE, bitN, *]; try (unfold wrap64; omega)))
theorem head_6 (c ki ks : Int) (tg la fa su : Bool) (sz n d0 d1 d2 d3 d4 d5 d6 co sq bl sp cr : Int) (hk : canE c fa n sq bl sp = true) (hc : c = 6) (w : World) :
    Calls Try.prog 37 #[.agg #[.int .i64 c, .int .i64 ki, .int .i64 ks, .bool tg, .bool la, .bool fa, .bool su, .int .i64 sz, .int .i64 n, .int .u8 d0, .int .u8 d1, .int .u8 d2, .int .u8 d3, .int .u8 d4, .int .u8 d5, .int .u8 d6, .int .i64 co, .int .i64 sq, .int .i64 bl, .int .i64 sp, .int .i64 cr]] w fun e w' => e = .returned (.int .i64 (headE c tg la fa su sz n sp)) ∧ Below w.heap.size w w' := by
  subst hc
  clear hk
  cases su
  all_goals
    go_enter Try.func37, Try.ntmps37
    go_wp2_with (go_at_call 47; refine (bit_any _ _ _).mono ?_; rintro e w1 ⟨rfl, rfl⟩)
    all_goals (go_ret; refine ⟨?_, (Below.refl _ _).alloc (Nat.le_refl _) _⟩; first | rfl | (apply ret_int; simp [headE, begunE, bitN, *]; try (unfold wrap64; omega)))
theorem head_12 (c ki ks : Int) (tg la fa su : Bool) (sz n d0 d1 d2 d3 d4 d5 d6 co sq bl sp cr : Int) (hk : canE c fa n sq bl sp = true) (hc : c = 12) (w : World) :
    Calls Try.prog 37 #[.agg #[.int .i64 c, .int .i64 ki, .int .i64 ks, .bool tg, .bool la, .bool fa, .bool su, .int .i64 sz, .int .i64 n, .int .u8 d0, .int .u8 d1, .int .u8 d2, .int .u8 d3, .int .u8 d4, .int .u8 d5, .int .u8 d6, .int .i64 co, .int .i64 sq, .int .i64 bl, .int .i64 sp, .int .i64 cr]] w fun e w' => e = .returned (.int .i64 (headE c tg la fa su sz n sp)) ∧ Below w.heap.size w w' := by
  subst hc
  clear hk
  cases su
  all_goals
    go_enter Try.func37, Try.ntmps37
    go_wp2_with (go_at_call 47; refine (bit_any _ _ _).mono ?_; rintro e w1 ⟨rfl, rfl⟩)
    all_goals (go_ret; refine ⟨?_, (Below.refl _ _).alloc (Nat.le_refl _) _⟩; first | rfl | (apply ret_int; simp [headE, begunE, bitN, *]; try (unfold wrap64; omega)))
theorem head_16 (c ki ks : Int) (tg la fa su : Bool) (sz n d0 d1 d2 d3 d4 d5 d6 co sq bl sp cr : Int) (hk : canE c fa n sq bl sp = true) (hc : c = 16) (w : World) :
    Calls Try.prog 37 #[.agg #[.int .i64 c, .int .i64 ki, .int .i64 ks, .bool tg, .bool la, .bool fa, .bool su, .int .i64 sz, .int .i64 n, .int .u8 d0, .int .u8 d1, .int .u8 d2, .int .u8 d3, .int .u8 d4, .int .u8 d5, .int .u8 d6, .int .i64 co, .int .i64 sq, .int .i64 bl, .int .i64 sp, .int .i64 cr]] w fun e w' => e = .returned (.int .i64 (headE c tg la fa su sz n sp)) ∧ Below w.heap.size w w' := by
  subst hc
  have h : 0 ≤ sp ∧ sp ≤ 7 := by simpa [canE, inB] using hk
  clear hk
  obtain rfl | rfl | rfl | rfl | rfl | rfl | rfl | rfl : sp = 0 ∨ sp = 1 ∨ sp = 2 ∨ sp = 3 ∨ sp = 4 ∨ sp = 5 ∨ sp = 6 ∨ sp = 7 := by omega
  all_goals clear h
  all_goals
    go_enter Try.func37, Try.ntmps37
    go_wp2_with (fail)
    all_goals (go_ret; refine ⟨?_, (Below.refl _ _).alloc (Nat.le_refl _) _⟩; first | rfl | (apply ret_int; simp [headE, begunE, bitN, *]; try (unfold wrap64; omega)))
end Go.Proofs.Ytoamgdcjmkkmfaa
