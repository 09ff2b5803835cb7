/- The function that Ids hands back. -/
import Derived.RangeFuncNested
import Derived.RangeFuncBound
import Derived.RangeFuncCalls
import Derived.RangeFuncLeaves
import Derived.RangeFuncWrites
import Derived.RangeFuncBox
import Derived.Shelf.Abstract
import Derived.Shelf.RegionOpen
import Derived.WalkKit
import Derived.OwnWalkIn
import Derived.TacticsInMore
import Derived.LoopNIn
import Derived.LoopIn
import Derived.Laws.Rows
import Derived.Test.YtjofgomnnpeepaaGp
namespace Go.Proofs.Ytjofgomnnpeepaa
open Go.RowKit Go.Sort Go.Shelf
attribute [local go_sem] Oper.semAt_some

theorem wpListIn_load_row {F : Fence} {n : Nat} {P : Program} {ops : Array Oper} {rest : List Oper} {o : Oper} {a : Act} {w : World} {Q : Exit → Act → World → Prop} (hgd : o.guard = none) (ty : TypeId) (x : Operand) (ho : o.op = .load ty x)
    (g : Nat) (hx : a.eval x = .pointer (some ⟨g, 0, none⟩)) (t : TypeId) (cs : Array Value) (fr : Nat × Nat) (d : TypeDesc) (hg : w.heap[g]? = some (.cells cs t fr))
    (hu : P.underlying ty = some d) (hd : (match d with | .struct _ | .array _ _ => true | _ => false) = true) (hi : (P.info? ty).map (·.size) = some cs.size)
    (h : wpListIn F n P ops Q rest (a.put o.dst (.agg cs)) w) : wpListIn F n P ops Q (o :: rest) a w := by
  refine wpListIn_plain hgd fun K' hK' => ?_
  unfold Oper.wpIn
  refine ⟨by simp [Oper.about, ho], ?_⟩
  rw [Oper.semAt_plain F _ _ (by rw [ho]; intro c hc'; cases hc')]
  unfold execOp
  simp only [ho, hx, Instr.loadAt, Instr.sureAddr, Sem.run_bind, Sem.run_pure, Result.andThen_ok, run_loadVar_row w g t ty cs fr d hg hu hd hi]
  exact hK' _ _ h
theorem rowN_size (N : Nat) (f : Nat → Value) : (rowN N f).size = N := by simp [rowN]
theorem arow_size (f : Nat → Value) : (arow f).size = 2048 := by
  have h : arow f = rowN 2048 f := by delta arow; rfl
  rw [h, rowN_size]
theorem index_set (f : Nat → Value) (j : Nat) (hj : j < 2048) (w : World) : (Instr.index 47 (.agg (arow f)) (.int .i64 j)).run Try.prog w = .ok (f j) w := by
  have hu : Try.prog.underlying 47 = some (.array 2048 4) := by kernel_rfl
  have hb : Try.prog.underlying 4 = some .bool := by kernel_rfl
  have hs := arow_at f hj
  have hi : (Try.prog.info? 4).map (·.size) = some 1 := by kernel_rfl
  cases hq : Try.prog.info? 4 with
  | none => simp [hq] at hi
  | some i =>
    have hs1 : i.size = 1 := by simpa [hq] using hi
    unfold Instr.index
    have ht : ((j : Int).toNat) = j := by omega
    have h0 : 0 ≤ (j : Int) ∧ (j : Int) < 2048 := by omega
    simp [asIntOf, Sem.run_bind, run_underlying hu, run_underlying hb, part, isAgg, sizeOf, typeInfo, hq, hs1, hj, hs]

/-- The identifiers below j of a set. -/
def selL (S : Nat → Bool) (j : Nat) : List Nat := (List.range j).filter S
theorem selL_succ (S : Nat → Bool) (j : Nat) : selL S (j + 1) = selL S j ++ if S j then [j] else [] := by
  unfold selL
  rw [List.range_succ, List.filter_append]
  congr 1
  cases h : S j <;> simp [h]
theorem selL_len (S : Nat → Bool) (j : Nat) : (selL S j).length ≤ j := by
  have := List.length_filter_le S (List.range j)
  simpa [selL] using this
theorem selL_pre (S : Nat → Bool) : ∀ (d j : Nat), selL S j <+: selL S (j + d)
  | 0, j => List.prefix_refl _
  | d + 1, j => by
    refine (selL_pre S d j).trans ?_
    rw [← Nat.add_assoc, selL_succ S (j + d)]
    exact List.prefix_append _ _
theorem selL_upto (S : Nat → Bool) {j : Nat} (h : j ≤ 2048) : selL S j <+: selL S 2048 := by
  have := selL_pre S (2048 - j) j
  rwa [show j + (2048 - j) = 2048 by omega] at this

set_option maxRecDepth 100000 in
set_option maxHeartbeats 2000000 in
theorem ids_in (n : Nat) (hn : 1 ≤ n) (l g : Nat) (S : Nat → Bool) (J Jx : List Nat → World → Prop) (W : World)
    (hY : ∀ pre (x : Nat) W, J pre W → pre.length < 2048 → YieldAt Fence.wide (n - 1) Try.prog l #[.int .i64 (x : Nat)] W fun e W' =>
      (e = .returned (.bool true) ∧ J (pre ++ [x]) W' ∧ True) ∨ (e = .returned (.bool false) ∧ Jx (pre ++ [x]) W'))
    (hS : Sets W g S) (h0 : J [] W) :
    CallsIn Fence.wide n Try.prog 23 #[.func (.yield l) #[] #[], .pointer (some ⟨g, 0, none⟩)] W fun e W' => (∃ v, e = .returned v) ∧
      ((∃ ys, ys = selL S 2048 ∧ J ys W') ∨ (∃ pre, pre <+: selL S 2048 ∧ Jx pre W')) := by
  have hu : Try.prog.underlying 47 = some (.array 2048 4) := by kernel_rfl
  have hi : (Try.prog.info? 47).map (·.size) = some (arow fun j => .bool (S j)).size := by rw [arow_size]; kernel_rfl
  have HS := Lib.hid hS
  have HY := Lib.hid hY
  clear hY hS
  refine callsIn_of_wp Try.func23 rfl trivial ?_ rfl
  simp only [Try.ntmps23, List.size_toArray, List.length_cons, List.length_nil, Nat.reduceAdd, Nat.reduceSub, Array.replicate_succ, Array.replicate_zero, List.push_toArray, List.append_toArray, List.nil_append, List.cons_append]
  gi_wp2_with (refine wpListIn_load_row rfl 47 (.tmp 1) rfl g rfl _ _ _ _ HS.out hu rfl hi ?_)
  gi_loopw [6] (fun i wr => ∃ p : Nat, p ≤ 2048 ∧ i = .int .i64 p ∧ J (selL S p) wr) (fun i _ => 2048 - (intOf i).toNat)
  case atStart => exact ⟨0, Nat.zero_le _, rfl, h0⟩
  case round =>
    obtain ⟨p, hp, rfl, hJs⟩ := hrel
    by_cases hlt : p < 2048
    · have hix := index_set (fun j => .bool (S j)) p hlt
      have hst := selL_succ S p
      have hln := selL_len S p
      have hpre := selL_upto S (j := p + 1) (by omega)
      have hb1 := selL_len S p
      cases hb : S p with
      | true =>
        rw [hb] at hix hst
        simp only [if_true] at hst
        rw [hst] at hpre
        obtain ⟨fn, tmps, assign, body, hy, hRd⟩ := HY.out _ p wr hJs (by omega)
        rw [← hst] at hRd hpre
        have HRD := Lib.hid hRd
        have HP := Lib.hid hpre
        clear hst hln hpre hb1 hb hRd
        gi_wp2_with fail
        refine HRD.out.mono ?_
        rintro e W3 (⟨rfl, hJ3, _⟩ | ⟨rfl, hJx3⟩)
        · gi_wp2
          go_roundw
          case rel => exact ⟨p + 1, by omega, by go_num, hJ3⟩
          case measure => simp [intOf]; omega
        · gi_wp2
          refine bodyPost_ret (results_none rfl _ _ _) rfl ?_
          exact ⟨⟨_, rfl⟩, .inr ⟨_, HP.out, hJx3⟩⟩
      | false =>
        rw [hb] at hix hst
        simp only [Bool.false_eq_true, if_false, List.append_nil] at hst
        rw [← hst] at hJs
        clear hst hln hpre hb1 hb
        gi_wp2_with fail
        refine ⟨?_, ?_⟩
        · intro f hf; cases hf
        gi_wp2_with fail
        go_roundw
        case rel => exact ⟨p + 1, by omega, by go_num, hJs⟩
        case measure => simp [intOf]; omega
    · obtain rfl : p = 2048 := by omega
      gi_wp2
      go_end0
      exact ⟨⟨_, rfl⟩, .inl ⟨_, rfl, hJs⟩⟩
theorem ids_stops (n : Nat) (hn : 1 ≤ n) (g : Nat) (S : Nat → Bool) (w : World) (hS : Sets w g S) :
    SeqStopsK Fence.wide n Try.prog 23 #[.pointer (some ⟨g, 0, none⟩)] (fun x : Nat => #[Value.int .i64 (x : Nat)]) (fun _ _ => True) (fun ys => ys = selL S 2048) (fun pre => pre <+: selL S 2048) 2048 w := fun l J Jx W hW _ _ hY h0 =>
  ids_in n hn l g S J Jx W hY (hS.below hW hS.lt) h0
end Go.Proofs.Ytjofgomnnpeepaa
