/- nmt: the modes, told one by one; the walk of NmtServices. -/
import Derived.Shelf.Abstract
import Derived.Shelf.RegionOpen
import Derived.WalkKit
import Derived.OwnWalkIn
import Derived.TacticsInMore
import Derived.LoopNIn
import Derived.LoopIn
import Derived.Test.YtnijdcbpllmieaaNg
namespace Go.Proofs.Ytnijdcbpllmieaa
open Go.RowKit Go.Shelf
attribute [local go_sem] Oper.semAt_some
set_option linter.unusedSimpArgs false
set_option linter.unusedVariables false

def mds : List Int := [0, 4, 5, 127]
theorem ixm0 (w : World) : (Instr.index 65 (.agg #[.int .i64 0, .int .i64 4, .int .i64 5, .int .i64 127]) (.int .i64 0)).run Try.prog w = .ok (.int .i64 0) w := by kernel_rfl
theorem ixm1 (w : World) : (Instr.index 65 (.agg #[.int .i64 0, .int .i64 4, .int .i64 5, .int .i64 127]) (.int .i64 1)).run Try.prog w = .ok (.int .i64 4) w := by kernel_rfl
theorem ixm2 (w : World) : (Instr.index 65 (.agg #[.int .i64 0, .int .i64 4, .int .i64 5, .int .i64 127]) (.int .i64 2)).run Try.prog w = .ok (.int .i64 5) w := by kernel_rfl
theorem ixm3 (w : World) : (Instr.index 65 (.agg #[.int .i64 0, .int .i64 4, .int .i64 5, .int .i64 127]) (.int .i64 3)).run Try.prog w = .ok (.int .i64 127) w := by kernel_rfl
set_option maxRecDepth 100000 in
set_option maxHeartbeats 2000000 in
theorem modes_L (n : Nat) (hn : 1 ≤ n) (w : World) : SeqL n Try.prog 28 #[] (fun x : Int => #[Value.int .i64 x]) (fun _ _ => True) (fun ys => ys = mds) (fun pre => pre <+: mds) 4 w := by
  intro l J Jx W hW hJ hJx hY h0
  have HY := Lib.hid hY
  clear hY hW hJ hJx
  refine callsIn_of_wp Try.func28 rfl trivial ?_ rfl
  simp only [Try.ntmps28, List.size_toArray, List.length_cons, List.length_nil, Nat.reduceAdd, Nat.reduceSub, Array.replicate_succ, Array.replicate_zero, List.push_toArray, List.append_toArray, List.nil_append, List.cons_append]
  gi_wp2_with fail
  gi_loopw [5] (fun i wr => ∃ p : Nat, p ≤ 4 ∧ i = .int .i64 p ∧ J (mds.take p) wr) (fun i _ => 4 - (intOf i).toNat)
  case atStart => exact ⟨0, Nat.zero_le _, rfl, h0⟩
  case round =>
    obtain ⟨p, hp, rfl, hJs⟩ := hrel
    have hcs : p = 0 ∨ p = 1 ∨ p = 2 ∨ p = 3 ∨ p = 4 := by omega
    clear hp
    rcases hcs with rfl | rfl | rfl | rfl | rfl
    · obtain ⟨fn, tmps, assign, body, hy, hRd⟩ := HY.out _ 0 wr hJs (by decide)
      have HRD := Lib.hid hRd
      have hix := ixm0
      clear hRd
      gi_wp2_with fail
      refine HRD.out.mono ?_
      rintro e W3 ⟨-, (⟨rfl, hJ3, -⟩ | ⟨rfl, hJx3⟩)⟩
      · gi_wp2
        go_roundw
        case rel => exact ⟨1, by omega, rfl, hJ3⟩
        case measure => simp [intOf]
      · gi_wp2
        refine bodyPost_ret (results_none rfl _ _ _) rfl ?_
        exact ⟨⟨_, rfl⟩, .inr ⟨_, by decide, hJx3⟩⟩
    · obtain ⟨fn, tmps, assign, body, hy, hRd⟩ := HY.out _ 4 wr hJs (by decide)
      have HRD := Lib.hid hRd
      have hix := ixm1
      clear hRd
      gi_wp2_with fail
      refine HRD.out.mono ?_
      rintro e W3 ⟨-, (⟨rfl, hJ3, -⟩ | ⟨rfl, hJx3⟩)⟩
      · gi_wp2
        go_roundw
        case rel => exact ⟨2, by omega, rfl, hJ3⟩
        case measure => simp [intOf]
      · gi_wp2
        refine bodyPost_ret (results_none rfl _ _ _) rfl ?_
        exact ⟨⟨_, rfl⟩, .inr ⟨_, by decide, hJx3⟩⟩
    · obtain ⟨fn, tmps, assign, body, hy, hRd⟩ := HY.out _ 5 wr hJs (by decide)
      have HRD := Lib.hid hRd
      have hix := ixm2
      clear hRd
      gi_wp2_with fail
      refine HRD.out.mono ?_
      rintro e W3 ⟨-, (⟨rfl, hJ3, -⟩ | ⟨rfl, hJx3⟩)⟩
      · gi_wp2
        go_roundw
        case rel => exact ⟨3, by omega, rfl, hJ3⟩
        case measure => simp [intOf]
      · gi_wp2
        refine bodyPost_ret (results_none rfl _ _ _) rfl ?_
        exact ⟨⟨_, rfl⟩, .inr ⟨_, by decide, hJx3⟩⟩
    · obtain ⟨fn, tmps, assign, body, hy, hRd⟩ := HY.out _ 127 wr hJs (by decide)
      have HRD := Lib.hid hRd
      have hix := ixm3
      clear hRd
      gi_wp2_with fail
      refine HRD.out.mono ?_
      rintro e W3 ⟨-, (⟨rfl, hJ3, -⟩ | ⟨rfl, hJx3⟩)⟩
      · gi_wp2
        go_roundw
        case rel => exact ⟨4, by omega, rfl, hJ3⟩
        case measure => simp [intOf]
      · gi_wp2
        refine bodyPost_ret (results_none rfl _ _ _) rfl ?_
        exact ⟨⟨_, rfl⟩, .inr ⟨_, by decide, hJx3⟩⟩
    · gi_wp2
      go_end0
      exact ⟨⟨_, rfl⟩, .inl ⟨_, rfl, hJs⟩⟩
theorem modes_any (w : World) : Calls Try.prog 21 #[] w fun e w' => e = .returned (.func (Fn.func 28) #[] #[]) ∧ w = w' := by
  go_enter Try.func21, Try.ntmps21
  go_wp2
  go_ret
  exact ⟨rfl, rfl⟩
end Go.Proofs.Ytnijdcbpllmieaa
