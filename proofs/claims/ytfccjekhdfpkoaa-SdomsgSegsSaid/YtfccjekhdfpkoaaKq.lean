/- What pick, cmdOfBlocks and cmd answer; the document's Asked and Answered. -/
import Derived.Test.YtfccjekhdfpkoaaKk
namespace Go.Proofs.Ytfccjekhdfpkoaa
open Go.RowKit
set_option linter.unusedSimpArgs false
set_option linter.unusedVariables false
set_option maxHeartbeats 4000000

def pickE (ans : Bool) (a b : Int) : Int := if ans then b else a
def blkE (h : Int) (ans : Bool) : Int := if h % 4 = 1 then 17 else if h % 4 = 2 then 15 else if h % 4 = 3 then pickE ans 7 0 else pickE ans 6 12
/-- The only Cmd of which a message with that first byte may be. -/
def cmdE (h : Int) (ans : Bool) : Int :=
  if h / 32 = 0 then pickE ans 2 11 else if h / 32 = 1 then pickE ans 1 9 else if h / 32 = 2 then pickE ans 3 10 else if h / 32 = 3 then pickE ans 4 8
  else if h / 32 = 4 then 14 else if h / 32 = 5 then blkE h ans else if h / 32 = 6 then (if h % 2 = 1 then 16 else pickE ans 5 13) else 0
theorem pick_any (ans : Bool) (a b : Int) (w : World) : Calls Try.prog 42 #[.bool ans, .int .i64 a, .int .i64 b] w fun e w' => e = .returned (.int .i64 (pickE ans a b)) ∧ w = w' := by
  go_enter Try.func42, Try.ntmps42
  cases ans
  all_goals (go_wp2_with fail; go_ret; exact ⟨rfl, rfl⟩)
theorem bU_all : ∀ h : Fin 256, bits BinOp.and IntKind.u8 (h.val : Int) 3 = h.val % 4 ∧ bits BinOp.and IntKind.u8 (h.val : Int) 1 = h.val % 2 := by decide +kernel
theorem bU {h : Int} (h0 : 0 ≤ h) (h1 : h ≤ 255) : bits BinOp.and IntKind.u8 h 3 = h % 4 ∧ bits BinOp.and IntKind.u8 h 1 = h % 2 := by
  have := bU_all ⟨h.toNat, by omega⟩
  simp only [show ((h.toNat : Nat) : Int) = h by omega] at this
  exact this
theorem blk_any (h : Int) (ans : Bool) (h0 : 0 ≤ h) (h1 : h ≤ 255) (w : World) : Calls Try.prog 43 #[.int .u8 h, .bool ans] w fun e w' => e = .returned (.int .i64 (blkE h ans)) ∧ w = w' := by
  obtain ⟨e3, _⟩ := bU h0 h1
  have E3 := Lib.hid e3
  have : h % 4 = 0 ∨ h % 4 = 1 ∨ h % 4 = 2 ∨ h % 4 = 3 := by omega
  rcases this with k | k | k | k
  all_goals
    rw [k] at e3
    go_enter Try.func43, Try.ntmps43
    go_wp2_with (go_at_call 42; refine (pick_any _ _ _ _).mono ?_; rintro e w1 ⟨rfl, rfl⟩)
    all_goals first
      | (exfalso; simp_all; done)
      | (go_ret; refine ⟨?_, rfl⟩; unfold blkE; rw [k]; rfl)
      | skip
theorem cmd_any (h : Int) (ans : Bool) (h0 : 0 ≤ h) (h1 : h ≤ 255) (w : World) : Calls Try.prog 23 #[.int .u8 h, .bool ans] w fun e w' => e = .returned (.int .i64 (cmdE h ans)) ∧ w = w' := by
  obtain ⟨_, e1⟩ := bU h0 h1
  obtain ⟨q, hq⟩ : ∃ q, h / 32 = q := ⟨_, rfl⟩
  have : q = 0 ∨ q = 1 ∨ q = 2 ∨ q = 3 ∨ q = 4 ∨ q = 5 ∨ q = 6 ∨ q = 7 := by omega
  have hp : h % 2 = 0 ∨ h % 2 = 1 := by omega
  rcases this with rfl | rfl | rfl | rfl | rfl | rfl | rfl | rfl
  all_goals
    go_enter Try.func23, Try.ntmps23
    go_wp2_with (first | (go_at_call 42; refine (pick_any _ _ _ _).mono ?_; rintro e w1 ⟨rfl, rfl⟩) | (go_at_call 43; refine (blk_any _ _ h0 h1 _).mono ?_; rintro e w1 ⟨rfl, rfl⟩))
    all_goals first
      | (exfalso; omega)
      | (go_ret; refine ⟨?_, rfl⟩; unfold cmdE; rw [hq]; rfl)
      | (go_ret; refine ⟨?_, rfl⟩; apply ret_int; unfold cmdE; rw [hq]; rw [e1] at *; simp; omega)
      | (go_ret; refine ⟨?_, rfl⟩; apply ret_int; unfold cmdE; rw [hq]; rcases hp with hp | hp <;> simp_all; done)
      | skip
theorem asked_any (c : Int) (w : World) : Calls Try.prog 25 #[.int .i64 c] w fun e w' => e = .returned (.bool (decide ((1 ≤ c ∧ c ≤ 7) ∨ 14 ≤ c))) ∧ w = w' := by
  go_enter Try.func25, Try.ntmps25
  go_wp2_with fail
  all_goals (go_ret; refine ⟨?_, rfl⟩; apply ret_bool; first | (rw [Bool.eq_iff_iff]; simp; done) | (rw [Bool.eq_iff_iff]; simp; omega) | (simp; done))
theorem answered_any (c : Int) (w : World) : Calls Try.prog 24 #[.int .i64 c] w fun e w' => e = .returned (.bool (decide (8 ≤ c ∧ c ≤ 17))) ∧ w = w' := by
  go_enter Try.func24, Try.ntmps24
  go_wp2_with fail
  all_goals (go_ret; refine ⟨?_, rfl⟩; apply ret_bool; first | (rw [Bool.eq_iff_iff]; simp; done) | (rw [Bool.eq_iff_iff]; simp; omega) | (simp; done))
end Go.Proofs.Ytfccjekhdfpkoaa
