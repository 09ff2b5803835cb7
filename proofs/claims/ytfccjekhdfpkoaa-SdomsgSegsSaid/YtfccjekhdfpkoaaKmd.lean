/- What the document's head answers. -/
import Derived.Deep.CutBlock
import Derived.Test.YtfccjekhdfpkoaaKz
import Derived.Test.YtfccjekhdfpkoaaKj
namespace Go.Proofs.Ytfccjekhdfpkoaa
open Go.RowKit
set_option linter.unusedSimpArgs false
set_option linter.unusedVariables false
set_option maxHeartbeats 4000000
theorem rhd_1f (ki ks sz d0 d1 d2 d3 d4 d5 d6 : Int) (hki : 0 ≤ ki ∧ ki ≤ 65535) (hks : 0 ≤ ks ∧ ks ≤ 255) (hsz : -1 ≤ sz ∧ sz ≤ 4294967295) (w : World) : Calls Try.prog 22 #[.agg #[.int .i64 1, .int .i64 ki, .int .i64 ks, .bool false, .bool false, .bool false, .bool false, .int .i64 sz, .int .i64 0, .int .u8 d0, .int .u8 d1, .int .u8 d2, .int .u8 d3, .int .u8 d4, .int .u8 d5, .int .u8 d6, .int .i64 0, .int .i64 0, .int .i64 0, .int .i64 0, .int .i64 0], .agg (rowX 1)] w fun e w' => e = .returned (.int .i64 (headE 1 false false false false sz 0 0)) ∧ Below w.heap.size w w' := by
  have e : rowX 1 = #[.int .i64 32, .bool true, .bool false, .bool false, .bool true, .bool false, .bool true, .bool false, .bool false, .bool false, .bool false] := rfl
  rw [e]
  clear e
  by_cases hz : sz = -1
  · subst hz
    go_enter Try.func22, Try.ntmps22
    go_wp2_with fail
    all_goals (go_ret; refine ⟨?_, ((Below.refl _ _).alloc (Nat.le_refl _) _).alloc (by simp) _⟩)
    all_goals (refine congrArg (fun x => Ending.returned (Value.int .i64 x)) ?_; simp_all [headE, begunE, bitN] <;> omega)
  · have hz0 : 0 ≤ sz := by omega
    go_enter Try.func22, Try.ntmps22
    go_wp2_with fail
    all_goals (go_ret; refine ⟨?_, ((Below.refl _ _).alloc (Nat.le_refl _) _).alloc (by simp) _⟩)
    all_goals (refine congrArg (fun x => Ending.returned (Value.int .i64 x)) ?_; simp_all [headE, begunE, bitN] <;> omega)
theorem rhd_1t (ki ks n d0 d1 d2 d3 d4 d5 d6 : Int) (hki : 0 ≤ ki ∧ ki ≤ 65535) (hks : 0 ≤ ks ∧ ks ≤ 255) (hn : 1 ≤ n ∧ n ≤ 4) (w : World) : Calls Try.prog 22 #[.agg #[.int .i64 1, .int .i64 ki, .int .i64 ks, .bool false, .bool false, .bool true, .bool false, .int .i64 0, .int .i64 n, .int .u8 d0, .int .u8 d1, .int .u8 d2, .int .u8 d3, .int .u8 d4, .int .u8 d5, .int .u8 d6, .int .i64 0, .int .i64 0, .int .i64 0, .int .i64 0, .int .i64 0], .agg (rowX 1)] w fun e w' => e = .returned (.int .i64 (headE 1 false false true false 0 n 0)) ∧ Below w.heap.size w w' := by
  have e : rowX 1 = #[.int .i64 32, .bool true, .bool false, .bool false, .bool true, .bool false, .bool true, .bool false, .bool false, .bool false, .bool false] := rfl
  rw [e]
  clear e
  · skip
    go_enter Try.func22, Try.ntmps22
    go_wp2_with fail
    all_goals (go_ret; refine ⟨?_, ((Below.refl _ _).alloc (Nat.le_refl _) _).alloc (by simp) _⟩)
    all_goals (refine congrArg (fun x => Ending.returned (Value.int .i64 x)) ?_; simp_all [headE, begunE, bitN] <;> omega)
theorem rhd_2 (n d0 d1 d2 d3 d4 d5 d6 : Int) (tg la : Bool) (hn : 0 ≤ n ∧ n ≤ 7) (w : World) : Calls Try.prog 22 #[.agg #[.int .i64 2, .int .i64 0, .int .i64 0, .bool tg, .bool la, .bool false, .bool false, .int .i64 0, .int .i64 n, .int .u8 d0, .int .u8 d1, .int .u8 d2, .int .u8 d3, .int .u8 d4, .int .u8 d5, .int .u8 d6, .int .i64 0, .int .i64 0, .int .i64 0, .int .i64 0, .int .i64 0], .agg (rowX 2)] w fun e w' => e = .returned (.int .i64 (headE 2 tg la false false 0 n 0)) ∧ Below w.heap.size w w' := by
  have e : rowX 2 = #[.int .i64 0, .bool false, .bool true, .bool true, .bool false, .bool false, .bool false, .bool true, .bool false, .bool false, .bool false] := rfl
  rw [e]
  clear e
  · skip
    go_enter Try.func22, Try.ntmps22
    go_wp2_with fail
    all_goals (go_ret; refine ⟨?_, ((Below.refl _ _).alloc (Nat.le_refl _) _).alloc (by simp) _⟩)
    all_goals (refine congrArg (fun x => Ending.returned (Value.int .i64 x)) ?_; simp_all [headE, begunE, bitN] <;> omega)
theorem rhd_3 (ki ks d0 d1 d2 d3 d4 d5 d6 : Int) (hki : 0 ≤ ki ∧ ki ≤ 65535) (hks : 0 ≤ ks ∧ ks ≤ 255) (w : World) : Calls Try.prog 22 #[.agg #[.int .i64 3, .int .i64 ki, .int .i64 ks, .bool false, .bool false, .bool false, .bool false, .int .i64 0, .int .i64 0, .int .u8 d0, .int .u8 d1, .int .u8 d2, .int .u8 d3, .int .u8 d4, .int .u8 d5, .int .u8 d6, .int .i64 0, .int .i64 0, .int .i64 0, .int .i64 0, .int .i64 0], .agg (rowX 3)] w fun e w' => e = .returned (.int .i64 (headE 3 false false false false 0 0 0)) ∧ Below w.heap.size w w' := by
  have e : rowX 3 = #[.int .i64 64, .bool true, .bool false, .bool false, .bool false, .bool false, .bool false, .bool false, .bool false, .bool false, .bool false] := rfl
  rw [e]
  clear e
  · skip
    go_enter Try.func22, Try.ntmps22
    go_wp2_with fail
    all_goals (go_ret; refine ⟨?_, ((Below.refl _ _).alloc (Nat.le_refl _) _).alloc (by simp) _⟩)
    all_goals (refine congrArg (fun x => Ending.returned (Value.int .i64 x)) ?_; simp_all [headE, begunE, bitN] <;> omega)
theorem rhd_4 (d0 d1 d2 d3 d4 d5 d6 : Int) (tg : Bool)  (w : World) : Calls Try.prog 22 #[.agg #[.int .i64 4, .int .i64 0, .int .i64 0, .bool tg, .bool false, .bool false, .bool false, .int .i64 0, .int .i64 0, .int .u8 d0, .int .u8 d1, .int .u8 d2, .int .u8 d3, .int .u8 d4, .int .u8 d5, .int .u8 d6, .int .i64 0, .int .i64 0, .int .i64 0, .int .i64 0, .int .i64 0], .agg (rowX 4)] w fun e w' => e = .returned (.int .i64 (headE 4 tg false false false 0 0 0)) ∧ Below w.heap.size w w' := by
  have e : rowX 4 = #[.int .i64 96, .bool false, .bool true, .bool false, .bool false, .bool false, .bool false, .bool false, .bool false, .bool false, .bool false] := rfl
  rw [e]
  clear e
  · skip
    go_enter Try.func22, Try.ntmps22
    go_wp2_with fail
    all_goals (go_ret; refine ⟨?_, ((Below.refl _ _).alloc (Nat.le_refl _) _).alloc (by simp) _⟩)
    all_goals (refine congrArg (fun x => Ending.returned (Value.int .i64 x)) ?_; simp_all [headE, begunE, bitN] <;> omega)
theorem rhd_5 (ki ks sz d0 d1 d2 d3 d4 d5 d6 : Int) (su : Bool) (hki : 0 ≤ ki ∧ ki ≤ 65535) (hks : 0 ≤ ks ∧ ks ≤ 255) (hsz : -1 ≤ sz ∧ sz ≤ 4294967295) (w : World) : Calls Try.prog 22 #[.agg #[.int .i64 5, .int .i64 ki, .int .i64 ks, .bool false, .bool false, .bool false, .bool su, .int .i64 sz, .int .i64 0, .int .u8 d0, .int .u8 d1, .int .u8 d2, .int .u8 d3, .int .u8 d4, .int .u8 d5, .int .u8 d6, .int .i64 0, .int .i64 0, .int .i64 0, .int .i64 0, .int .i64 0], .agg (rowX 5)] w fun e w' => e = .returned (.int .i64 (headE 5 false false false su sz 0 0)) ∧ Below w.heap.size w w' := by
  have e : rowX 5 = #[.int .i64 192, .bool true, .bool false, .bool false, .bool false, .bool true, .bool true, .bool false, .bool false, .bool false, .bool false] := rfl
  rw [e]
  clear e
  by_cases hz : sz = -1
  · subst hz
    go_enter Try.func22, Try.ntmps22
    go_wp2_with fail
    all_goals (go_ret; refine ⟨?_, ((Below.refl _ _).alloc (Nat.le_refl _) _).alloc (by simp) _⟩)
    all_goals (refine congrArg (fun x => Ending.returned (Value.int .i64 x)) ?_; simp_all [headE, begunE, bitN] <;> omega)
  · have hz0 : 0 ≤ sz := by omega
    go_enter Try.func22, Try.ntmps22
    go_wp2_with fail
    all_goals (go_ret; refine ⟨?_, ((Below.refl _ _).alloc (Nat.le_refl _) _).alloc (by simp) _⟩)
    all_goals (refine congrArg (fun x => Ending.returned (Value.int .i64 x)) ?_; simp_all [headE, begunE, bitN] <;> omega)
theorem rhd_6 (ki ks bl d0 d1 d2 d3 d4 d5 d6 : Int) (su : Bool) (hki : 0 ≤ ki ∧ ki ≤ 65535) (hks : 0 ≤ ks ∧ ks ≤ 255) (hbl : 1 ≤ bl ∧ bl ≤ 127) (w : World) : Calls Try.prog 22 #[.agg #[.int .i64 6, .int .i64 ki, .int .i64 ks, .bool false, .bool false, .bool false, .bool su, .int .i64 0, .int .i64 0, .int .u8 d0, .int .u8 d1, .int .u8 d2, .int .u8 d3, .int .u8 d4, .int .u8 d5, .int .u8 d6, .int .i64 0, .int .i64 0, .int .i64 bl, .int .i64 0, .int .i64 0], .agg (rowX 6)] w fun e w' => e = .returned (.int .i64 (headE 6 false false false su 0 0 0)) ∧ Below w.heap.size w w' := by
  have e : rowX 6 = #[.int .i64 160, .bool true, .bool false, .bool false, .bool false, .bool true, .bool false, .bool false, .bool false, .bool true, .bool false] := rfl
  rw [e]
  clear e
  · skip
    go_enter Try.func22, Try.ntmps22
    go_wp2_with fail
    all_goals (go_ret; refine ⟨?_, ((Below.refl _ _).alloc (Nat.le_refl _) _).alloc (by simp) _⟩)
    all_goals (refine congrArg (fun x => Ending.returned (Value.int .i64 x)) ?_; simp_all [headE, begunE, bitN] <;> omega)
theorem rhd_7 (d0 d1 d2 d3 d4 d5 d6 : Int)  (w : World) : Calls Try.prog 22 #[.agg #[.int .i64 7, .int .i64 0, .int .i64 0, .bool false, .bool false, .bool false, .bool false, .int .i64 0, .int .i64 0, .int .u8 d0, .int .u8 d1, .int .u8 d2, .int .u8 d3, .int .u8 d4, .int .u8 d5, .int .u8 d6, .int .i64 0, .int .i64 0, .int .i64 0, .int .i64 0, .int .i64 0], .agg (rowX 7)] w fun e w' => e = .returned (.int .i64 (headE 7 false false false false 0 0 0)) ∧ Below w.heap.size w w' := by
  have e : rowX 7 = #[.int .i64 163, .bool false, .bool false, .bool false, .bool false, .bool false, .bool false, .bool false, .bool false, .bool false, .bool false] := rfl
  rw [e]
  clear e
  · skip
    go_enter Try.func22, Try.ntmps22
    go_wp2_with fail
    all_goals (go_ret; refine ⟨?_, ((Below.refl _ _).alloc (Nat.le_refl _) _).alloc (by simp) _⟩)
    all_goals (refine congrArg (fun x => Ending.returned (Value.int .i64 x)) ?_; simp_all [headE, begunE, bitN] <;> omega)
theorem rhd_8 (ki ks d0 d1 d2 d3 d4 d5 d6 : Int) (hki : 0 ≤ ki ∧ ki ≤ 65535) (hks : 0 ≤ ks ∧ ks ≤ 255) (w : World) : Calls Try.prog 22 #[.agg #[.int .i64 8, .int .i64 ki, .int .i64 ks, .bool false, .bool false, .bool false, .bool false, .int .i64 0, .int .i64 0, .int .u8 d0, .int .u8 d1, .int .u8 d2, .int .u8 d3, .int .u8 d4, .int .u8 d5, .int .u8 d6, .int .i64 0, .int .i64 0, .int .i64 0, .int .i64 0, .int .i64 0], .agg (rowX 8)] w fun e w' => e = .returned (.int .i64 (headE 8 false false false false 0 0 0)) ∧ Below w.heap.size w w' := by
  have e : rowX 8 = #[.int .i64 96, .bool true, .bool false, .bool false, .bool false, .bool false, .bool false, .bool false, .bool false, .bool false, .bool false] := rfl
  rw [e]
  clear e
  · skip
    go_enter Try.func22, Try.ntmps22
    go_wp2_with fail
    all_goals (go_ret; refine ⟨?_, ((Below.refl _ _).alloc (Nat.le_refl _) _).alloc (by simp) _⟩)
    all_goals (refine congrArg (fun x => Ending.returned (Value.int .i64 x)) ?_; simp_all [headE, begunE, bitN] <;> omega)
theorem rhd_9 (d0 d1 d2 d3 d4 d5 d6 : Int) (tg : Bool)  (w : World) : Calls Try.prog 22 #[.agg #[.int .i64 9, .int .i64 0, .int .i64 0, .bool tg, .bool false, .bool false, .bool false, .int .i64 0, .int .i64 0, .int .u8 d0, .int .u8 d1, .int .u8 d2, .int .u8 d3, .int .u8 d4, .int .u8 d5, .int .u8 d6, .int .i64 0, .int .i64 0, .int .i64 0, .int .i64 0, .int .i64 0], .agg (rowX 9)] w fun e w' => e = .returned (.int .i64 (headE 9 tg false false false 0 0 0)) ∧ Below w.heap.size w w' := by
  have e : rowX 9 = #[.int .i64 32, .bool false, .bool true, .bool false, .bool false, .bool false, .bool false, .bool false, .bool false, .bool false, .bool false] := rfl
  rw [e]
  clear e
  · skip
    go_enter Try.func22, Try.ntmps22
    go_wp2_with fail
    all_goals (go_ret; refine ⟨?_, ((Below.refl _ _).alloc (Nat.le_refl _) _).alloc (by simp) _⟩)
    all_goals (refine congrArg (fun x => Ending.returned (Value.int .i64 x)) ?_; simp_all [headE, begunE, bitN] <;> omega)
theorem rhd_10f (ki ks sz d0 d1 d2 d3 d4 d5 d6 : Int) (hki : 0 ≤ ki ∧ ki ≤ 65535) (hks : 0 ≤ ks ∧ ks ≤ 255) (hsz : -1 ≤ sz ∧ sz ≤ 4294967295) (w : World) : Calls Try.prog 22 #[.agg #[.int .i64 10, .int .i64 ki, .int .i64 ks, .bool false, .bool false, .bool false, .bool false, .int .i64 sz, .int .i64 0, .int .u8 d0, .int .u8 d1, .int .u8 d2, .int .u8 d3, .int .u8 d4, .int .u8 d5, .int .u8 d6, .int .i64 0, .int .i64 0, .int .i64 0, .int .i64 0, .int .i64 0], .agg (rowX 10)] w fun e w' => e = .returned (.int .i64 (headE 10 false false false false sz 0 0)) ∧ Below w.heap.size w w' := by
  have e : rowX 10 = #[.int .i64 64, .bool true, .bool false, .bool false, .bool true, .bool false, .bool true, .bool false, .bool false, .bool false, .bool false] := rfl
  rw [e]
  clear e
  by_cases hz : sz = -1
  · subst hz
    go_enter Try.func22, Try.ntmps22
    go_wp2_with fail
    all_goals (go_ret; refine ⟨?_, ((Below.refl _ _).alloc (Nat.le_refl _) _).alloc (by simp) _⟩)
    all_goals (refine congrArg (fun x => Ending.returned (Value.int .i64 x)) ?_; simp_all [headE, begunE, bitN] <;> omega)
  · have hz0 : 0 ≤ sz := by omega
    go_enter Try.func22, Try.ntmps22
    go_wp2_with fail
    all_goals (go_ret; refine ⟨?_, ((Below.refl _ _).alloc (Nat.le_refl _) _).alloc (by simp) _⟩)
    all_goals (refine congrArg (fun x => Ending.returned (Value.int .i64 x)) ?_; simp_all [headE, begunE, bitN] <;> omega)
theorem rhd_10t (ki ks n d0 d1 d2 d3 d4 d5 d6 : Int) (hki : 0 ≤ ki ∧ ki ≤ 65535) (hks : 0 ≤ ks ∧ ks ≤ 255) (hn : 1 ≤ n ∧ n ≤ 4) (w : World) : Calls Try.prog 22 #[.agg #[.int .i64 10, .int .i64 ki, .int .i64 ks, .bool false, .bool false, .bool true, .bool false, .int .i64 0, .int .i64 n, .int .u8 d0, .int .u8 d1, .int .u8 d2, .int .u8 d3, .int .u8 d4, .int .u8 d5, .int .u8 d6, .int .i64 0, .int .i64 0, .int .i64 0, .int .i64 0, .int .i64 0], .agg (rowX 10)] w fun e w' => e = .returned (.int .i64 (headE 10 false false true false 0 n 0)) ∧ Below w.heap.size w w' := by
  have e : rowX 10 = #[.int .i64 64, .bool true, .bool false, .bool false, .bool true, .bool false, .bool true, .bool false, .bool false, .bool false, .bool false] := rfl
  rw [e]
  clear e
  · skip
    go_enter Try.func22, Try.ntmps22
    go_wp2_with fail
    all_goals (go_ret; refine ⟨?_, ((Below.refl _ _).alloc (Nat.le_refl _) _).alloc (by simp) _⟩)
    all_goals (refine congrArg (fun x => Ending.returned (Value.int .i64 x)) ?_; simp_all [headE, begunE, bitN] <;> omega)
theorem rhd_11 (n d0 d1 d2 d3 d4 d5 d6 : Int) (tg la : Bool) (hn : 0 ≤ n ∧ n ≤ 7) (w : World) : Calls Try.prog 22 #[.agg #[.int .i64 11, .int .i64 0, .int .i64 0, .bool tg, .bool la, .bool false, .bool false, .int .i64 0, .int .i64 n, .int .u8 d0, .int .u8 d1, .int .u8 d2, .int .u8 d3, .int .u8 d4, .int .u8 d5, .int .u8 d6, .int .i64 0, .int .i64 0, .int .i64 0, .int .i64 0, .int .i64 0], .agg (rowX 11)] w fun e w' => e = .returned (.int .i64 (headE 11 tg la false false 0 n 0)) ∧ Below w.heap.size w w' := by
  have e : rowX 11 = #[.int .i64 0, .bool false, .bool true, .bool true, .bool false, .bool false, .bool false, .bool true, .bool false, .bool false, .bool false] := rfl
  rw [e]
  clear e
  · skip
    go_enter Try.func22, Try.ntmps22
    go_wp2_with fail
    all_goals (go_ret; refine ⟨?_, ((Below.refl _ _).alloc (Nat.le_refl _) _).alloc (by simp) _⟩)
    all_goals (refine congrArg (fun x => Ending.returned (Value.int .i64 x)) ?_; simp_all [headE, begunE, bitN] <;> omega)
theorem rhd_12 (ki ks bl d0 d1 d2 d3 d4 d5 d6 : Int) (su : Bool) (hki : 0 ≤ ki ∧ ki ≤ 65535) (hks : 0 ≤ ks ∧ ks ≤ 255) (hbl : 1 ≤ bl ∧ bl ≤ 127) (w : World) : Calls Try.prog 22 #[.agg #[.int .i64 12, .int .i64 ki, .int .i64 ks, .bool false, .bool false, .bool false, .bool su, .int .i64 0, .int .i64 0, .int .u8 d0, .int .u8 d1, .int .u8 d2, .int .u8 d3, .int .u8 d4, .int .u8 d5, .int .u8 d6, .int .i64 0, .int .i64 0, .int .i64 bl, .int .i64 0, .int .i64 0], .agg (rowX 12)] w fun e w' => e = .returned (.int .i64 (headE 12 false false false su 0 0 0)) ∧ Below w.heap.size w w' := by
  have e : rowX 12 = #[.int .i64 160, .bool true, .bool false, .bool false, .bool false, .bool true, .bool false, .bool false, .bool false, .bool true, .bool false] := rfl
  rw [e]
  clear e
  · skip
    go_enter Try.func22, Try.ntmps22
    go_wp2_with fail
    all_goals (go_ret; refine ⟨?_, ((Below.refl _ _).alloc (Nat.le_refl _) _).alloc (by simp) _⟩)
    all_goals (refine congrArg (fun x => Ending.returned (Value.int .i64 x)) ?_; simp_all [headE, begunE, bitN] <;> omega)
theorem rhd_13 (ki ks sz d0 d1 d2 d3 d4 d5 d6 : Int) (su : Bool) (hki : 0 ≤ ki ∧ ki ≤ 65535) (hks : 0 ≤ ks ∧ ks ≤ 255) (hsz : -1 ≤ sz ∧ sz ≤ 4294967295) (w : World) : Calls Try.prog 22 #[.agg #[.int .i64 13, .int .i64 ki, .int .i64 ks, .bool false, .bool false, .bool false, .bool su, .int .i64 sz, .int .i64 0, .int .u8 d0, .int .u8 d1, .int .u8 d2, .int .u8 d3, .int .u8 d4, .int .u8 d5, .int .u8 d6, .int .i64 0, .int .i64 0, .int .i64 0, .int .i64 0, .int .i64 0], .agg (rowX 13)] w fun e w' => e = .returned (.int .i64 (headE 13 false false false su sz 0 0)) ∧ Below w.heap.size w w' := by
  have e : rowX 13 = #[.int .i64 192, .bool true, .bool false, .bool false, .bool false, .bool true, .bool true, .bool false, .bool false, .bool false, .bool false] := rfl
  rw [e]
  clear e
  by_cases hz : sz = -1
  · subst hz
    go_enter Try.func22, Try.ntmps22
    go_wp2_with fail
    all_goals (go_ret; refine ⟨?_, ((Below.refl _ _).alloc (Nat.le_refl _) _).alloc (by simp) _⟩)
    all_goals (refine congrArg (fun x => Ending.returned (Value.int .i64 x)) ?_; simp_all [headE, begunE, bitN] <;> omega)
  · have hz0 : 0 ≤ sz := by omega
    go_enter Try.func22, Try.ntmps22
    go_wp2_with fail
    all_goals (go_ret; refine ⟨?_, ((Below.refl _ _).alloc (Nat.le_refl _) _).alloc (by simp) _⟩)
    all_goals (refine congrArg (fun x => Ending.returned (Value.int .i64 x)) ?_; simp_all [headE, begunE, bitN] <;> omega)
theorem rhd_14 (ki ks co d0 d1 d2 d3 d4 d5 d6 : Int) (hki : 0 ≤ ki ∧ ki ≤ 65535) (hks : 0 ≤ ks ∧ ks ≤ 255) (hco : 0 ≤ co ∧ co ≤ 4294967295) (w : World) : Calls Try.prog 22 #[.agg #[.int .i64 14, .int .i64 ki, .int .i64 ks, .bool false, .bool false, .bool false, .bool false, .int .i64 0, .int .i64 0, .int .u8 d0, .int .u8 d1, .int .u8 d2, .int .u8 d3, .int .u8 d4, .int .u8 d5, .int .u8 d6, .int .i64 co, .int .i64 0, .int .i64 0, .int .i64 0, .int .i64 0], .agg (rowX 14)] w fun e w' => e = .returned (.int .i64 (headE 14 false false false false 0 0 0)) ∧ Below w.heap.size w w' := by
  have e : rowX 14 = #[.int .i64 128, .bool true, .bool false, .bool false, .bool false, .bool false, .bool false, .bool false, .bool true, .bool false, .bool false] := rfl
  rw [e]
  clear e
  · skip
    go_enter Try.func22, Try.ntmps22
    go_wp2_with fail
    all_goals (go_ret; refine ⟨?_, ((Below.refl _ _).alloc (Nat.le_refl _) _).alloc (by simp) _⟩)
    all_goals (refine congrArg (fun x => Ending.returned (Value.int .i64 x)) ?_; simp_all [headE, begunE, bitN] <;> omega)
theorem rhd_15 (sq bl d0 d1 d2 d3 d4 d5 d6 : Int) (hsq : 0 ≤ sq ∧ sq ≤ 127) (hbl : 1 ≤ bl ∧ bl ≤ 127) (w : World) : Calls Try.prog 22 #[.agg #[.int .i64 15, .int .i64 0, .int .i64 0, .bool false, .bool false, .bool false, .bool false, .int .i64 0, .int .i64 0, .int .u8 d0, .int .u8 d1, .int .u8 d2, .int .u8 d3, .int .u8 d4, .int .u8 d5, .int .u8 d6, .int .i64 0, .int .i64 sq, .int .i64 bl, .int .i64 0, .int .i64 0], .agg (rowX 15)] w fun e w' => e = .returned (.int .i64 (headE 15 false false false false 0 0 0)) ∧ Below w.heap.size w w' := by
  have e : rowX 15 = #[.int .i64 162, .bool false, .bool false, .bool false, .bool false, .bool false, .bool false, .bool false, .bool false, .bool true, .bool false] := rfl
  rw [e]
  clear e
  · skip
    go_enter Try.func22, Try.ntmps22
    go_wp2_with fail
    all_goals (go_ret; refine ⟨?_, ((Below.refl _ _).alloc (Nat.le_refl _) _).alloc (by simp) _⟩)
    all_goals (refine congrArg (fun x => Ending.returned (Value.int .i64 x)) ?_; simp_all [headE, begunE, bitN] <;> omega)
theorem rhd_16 (sp cr d0 d1 d2 d3 d4 d5 d6 : Int) (hsp : 0 ≤ sp ∧ sp ≤ 7) (hcr : 0 ≤ cr ∧ cr ≤ 65535) (w : World) : Calls Try.prog 22 #[.agg #[.int .i64 16, .int .i64 0, .int .i64 0, .bool false, .bool false, .bool false, .bool false, .int .i64 0, .int .i64 0, .int .u8 d0, .int .u8 d1, .int .u8 d2, .int .u8 d3, .int .u8 d4, .int .u8 d5, .int .u8 d6, .int .i64 0, .int .i64 0, .int .i64 0, .int .i64 sp, .int .i64 cr], .agg (rowX 16)] w fun e w' => e = .returned (.int .i64 (headE 16 false false false false 0 0 sp)) ∧ Below w.heap.size w w' := by
  have e : rowX 16 = #[.int .i64 193, .bool false, .bool false, .bool false, .bool false, .bool false, .bool false, .bool false, .bool false, .bool false, .bool true] := rfl
  rw [e]
  clear e
  · skip
    go_enter Try.func22, Try.ntmps22
    go_wp2_with fail
    all_goals (go_ret; refine ⟨?_, ((Below.refl _ _).alloc (Nat.le_refl _) _).alloc (by simp) _⟩)
    all_goals (refine congrArg (fun x => Ending.returned (Value.int .i64 x)) ?_; simp_all [headE, begunE, bitN] <;> omega)
theorem rhd_17 (d0 d1 d2 d3 d4 d5 d6 : Int)  (w : World) : Calls Try.prog 22 #[.agg #[.int .i64 17, .int .i64 0, .int .i64 0, .bool false, .bool false, .bool false, .bool false, .int .i64 0, .int .i64 0, .int .u8 d0, .int .u8 d1, .int .u8 d2, .int .u8 d3, .int .u8 d4, .int .u8 d5, .int .u8 d6, .int .i64 0, .int .i64 0, .int .i64 0, .int .i64 0, .int .i64 0], .agg (rowX 17)] w fun e w' => e = .returned (.int .i64 (headE 17 false false false false 0 0 0)) ∧ Below w.heap.size w w' := by
  have e : rowX 17 = #[.int .i64 161, .bool false, .bool false, .bool false, .bool false, .bool false, .bool false, .bool false, .bool false, .bool false, .bool false] := rfl
  rw [e]
  clear e
  · skip
    go_enter Try.func22, Try.ntmps22
    go_wp2_with fail
    all_goals (go_ret; refine ⟨?_, ((Below.refl _ _).alloc (Nat.le_refl _) _).alloc (by simp) _⟩)
    all_goals (refine congrArg (fun x => Ending.returned (Value.int .i64 x)) ?_; simp_all [headE, begunE, bitN] <;> omega)
end Go.Proofs.Ytfccjekhdfpkoaa
