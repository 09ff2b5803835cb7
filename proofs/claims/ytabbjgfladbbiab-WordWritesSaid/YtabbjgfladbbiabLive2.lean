/- What package word must do whatever is asked (the laws' own 'live'): it does. -/
import Derived.Test.YtabbjgfladbbiabRefC
namespace Go.Proofs.Ytabbjgfladbbiab
open Go.RowKit

theorem live_put : putA 3 258 = [2, 1] ∧ putE 3 258 = 0 := by decide
theorem live_get : getN 5 [255] = -1 ∧ getE 5 [255] = 0 := by decide
theorem live_str : (strOfNums [2, 1]).toList = [2, 1] := by rw [ByteArray.toList_eq]; decide

theorem live2_any (w : World) : Calls Try.prog 15 #[] w fun e w' => e = .returned (.bool true) ∧ Below w.heap.size w w' := by
  have hp := fun w => put_any 3 258 w
  unfold PutPost at hp
  rw [live_put.1, live_put.2] at hp
  have hg := fun (w : World) (A : Option Addr) (c : Nat) (h : Byt w w.heap.size A 1 c [255]) => get_any 5 w A 1 c [255] h
  unfold GetPost at hg
  rw [live_get.1, live_get.2] at hg
  have HP := Lib.hid hp
  have HG := Lib.hid hg
  have HL := live_str
  clear hp hg
  go_enter Try.func15, Try.ntmps15
  go_wp2_with fail
  refine (HP.out _).mono ?_
  rintro e w1 ⟨A, c, rfl, hB, hb⟩
  go_wp2_with fail
  refine (HG.out _ _ _ ((Byt.new w1 5 [255] (by simp) (by simp [maxLen])).more (by simp))).mono ?_
  rintro e w2 ⟨rfl, hb2⟩
  have hB2 : Byt w2 w2.heap.size A 2 c [2, 1] := (hB.step ((Below.refl _ _).alloc (Nat.le_refl _) _)).step hb2
  have hst := run_str 22 5 Try.underlying22 Try.underlying5 hB2 9 Try.underlying9
  clear hB hB2
  go_wp2
  go_ret
  exact ⟨rfl, hb.trans (Below.mono (((Below.refl _ _).alloc (Nat.le_refl _) _).trans (hb2.mono (by simp))) hb.size)⟩
end Go.Proofs.Ytabbjgfladbbiab
