/- Messages of transfers as values; the program's small functions, and can. -/
import Derived.Test.YtoamgdcjmkkmfaaKDRl
import Derived.Laws.StructEq
import Derived.ChangeKeysEq
namespace Go.Proofs.Ytoamgdcjmkkmfaa
open Go.RowKit
set_option linter.unusedSimpArgs false

/-- A message. -/
structure Ms where
  c : Int
  ki : Int
  ks : Int
  tg : Bool
  la : Bool
  fa : Bool
  su : Bool
  sz : Int
  n : Int
  d0 : Int
  d1 : Int
  d2 : Int
  d3 : Int
  d4 : Int
  d5 : Int
  d6 : Int
  co : Int
  sq : Int
  bl : Int
  sp : Int
  cr : Int
/-- Its value. -/
abbrev mA (c ki ks : Int) (tg la fa su : Bool) (sz n d0 d1 d2 d3 d4 d5 d6 co sq bl sp cr : Int) : Array Value := #[.int .i64 c, .int .i64 ki, .int .i64 ks, .bool tg, .bool la, .bool fa, .bool su, .int .i64 sz, .int .i64 n, .int .u8 d0, .int .u8 d1, .int .u8 d2, .int .u8 d3, .int .u8 d4, .int .u8 d5, .int .u8 d6, .int .i64 co, .int .i64 sq, .int .i64 bl, .int .i64 sp, .int .i64 cr]

/-- Is a number one from another to a third? -/
def inB (n lo hi : Int) : Bool := decide (lo ≤ n ∧ n ≤ hi)
def bitN (b : Bool) (k : Int) : Int := if b then k else 0
theorem within_any (n lo hi : Int) (w : World) : Calls Try.prog 44 #[.int .i64 n, .int .i64 lo, .int .i64 hi] w fun e w' => e = .returned (.bool (inB n lo hi)) ∧ w = w' := by
  go_enter Try.func44, Try.ntmps44
  go_wp2_with fail
  all_goals (go_ret; refine ⟨?_, rfl⟩; apply ret_bool; unfold inB; simp; try omega)
theorem bit_any (b : Bool) (k : Int) (w : World) : Calls Try.prog 47 #[.bool b, .int .i64 k] w fun e w' => e = .returned (.int .i64 (bitN b k)) ∧ w = w' := by
  go_enter Try.func47, Try.ntmps47
  cases b
  all_goals (go_wp2_with fail; go_ret; exact ⟨rfl, rfl⟩)

/-- Can its numbers stand there that have less room than their bytes? -/
def canE (c : Int) (fa : Bool) (n sq bl sp : Int) : Bool :=
  if c = 1 ∨ c = 10 then !fa || inB n 1 4 else if c = 2 ∨ c = 11 then inB n 0 7 else if c = 15 then inB sq 0 127 && inB bl 1 127
  else if c = 6 ∨ c = 12 then inB bl 1 127 else if c = 16 then inB sp 0 7 else true
end Go.Proofs.Ytoamgdcjmkkmfaa
