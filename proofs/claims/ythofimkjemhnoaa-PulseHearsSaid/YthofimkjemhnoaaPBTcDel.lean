/- What slices.Delete and Clone do with a row of the call's own: elements of 2 cells. -/
import Derived.Test.YthofimkjemhnoaaPBTcIns
import Derived.WalkSpells
namespace Go.Proofs.Ythofimkjemhnoaa
open Go.RowKit
set_option linter.unusedSimpArgs false
set_option linter.unusedVariables false
theorem step_append_run {P : Program} {ops : Array Oper} {o : Oper} {a : Act} {w : World} {K : Act → World → Prop} {Q : Exit → Act → World → Prop} {E : Prop}
    (hg : o.guard = none) (s x : Operand) (t t' : TypeId) (hop : o.op = Op.call { callee := Callee.builtin Builtin.append, args := #[s, x], argTypes := #[t, t'] })
    (v u : Value) (hd : a.eval s = v) (hx : a.eval x = u) {v' : Value} {w' : World} (hr : (Builtin.append_ #[t, t'] o.type #[v, u]).run P w = .ok v' w') (hK : K (a.put o.dst v') w') :
    if Region.wanted o (yielded ops a.tmps) = true then Oper.wp P o a w K Q else E := by
  have hw : Region.wanted o (yielded ops a.tmps) = true := by simp [Region.wanted, hg]
  rw [if_pos hw]
  exact Lib.wp_append_run w s x t t' hop _ _ hd hx _ _ hr hK
theorem wpList_clear_run {P : Program} {wr w' : World} {ops : Array Oper} {rest : List Oper} {o : Oper} {a : Act} {Q : Exit → Act → World → Prop} (hgd : o.guard = none) (s : Operand) (t : TypeId)
    (ho : o.op = .call { callee := .builtin .clear, args := #[s], argTypes := #[t] }) (v : Value) (hs : a.eval s = v) (hrun : (Builtin.clear_ #[t] o.type #[v]).run P wr = .ok (.tuple #[]) w')
    (hK : wpList P ops Q rest (a.put o.dst (.tuple #[])) w') : wpList P ops Q (o :: rest) a wr := by
  refine wpList_plain hgd fun K hKK => ?_
  unfold Oper.wp
  simp [execOp, ho, resolve, invoke, builtin, hs, hrun, Result.andThen]
  exact hKK _ _ hK
set_option maxRecDepth 100000 in
set_option maxHeartbeats 4000000 in
theorem delete_mid (w : World) (base n i g cap : Nat) (xs : List Value) (hown : w.ownsRow base 98 2 (.slice (some ⟨g, 0, none⟩) (n + 1) cap) (n + 1) xs) (hi : i < n) (hn : n ≤ 100000) (hx1 : ∀ u ∈ xs, u.oneCell' = true) :
    Calls Try.prog 52 #[.slice (some ⟨g, 0, none⟩) (n + 1) cap, .int .i64 (i : Nat), .int .i64 ((i : Nat) + 1)] w (Made w base (.slice (some ⟨g, 0, none⟩) (n + 1) cap) n (xs.take (i * 2) ++ xs.drop ((i + 1) * 2))) := by
  obtain ⟨g', cap', cur, e0, hbg, hg, hnc, hm, hs, hl, hx⟩ := own_some hown (by omega)
  cases e0
  have hdl : (xs.drop ((i + 1) * 2)).length = (n - i) * 2 := by rw [List.length_drop, hl]; omega
  have hfin := own_gone (w := w.drew) (i := i) (zs := [.int .i64 0, .int .i64 0]) hbg hg hnc hm hs hl hx (by omega) rfl
  have hcp1 : ∀ ty c, (Builtin.append_ #[88, 88] ty #[.slice (some ⟨g, 0, none⟩) i cap, .slice (some ⟨g, (i + 1) * 2, none⟩) (n - i) c]).run Try.prog w.drew = .ok (.slice (some ⟨g, 0, none⟩) n cap) (w.drew.setCells g (i * 2) (xs.drop ((i + 1) * 2))) := fun ty c => by
    have h := run_append_room w.drew 88 ty 98 2 g i cap (some ⟨g, (i + 1) * 2, none⟩) (n - i) c 98 (xs.drop ((i + 1) * 2)) cur Try.underlying88 size_el (by omega) hdl hg (by rw [hdl, hs]; omega)
      (fun _ => ⟨_, rfl, fun j u hu => by
        have hj : j < (n - i) * 2 := by rw [← hdl]; exact (List.getElem?_eq_some_iff.1 hu).1
        rw [add_plainR, show w.drew.cell? ⟨g, (i + 1) * 2 + j, none⟩ = w.cell? ⟨g, (i + 1) * 2 + j, none⟩ from rfl, own_cell hown (by omega)]
        rwa [List.getElem?_drop] at hu⟩) (fun u hu => hx1 u (List.mem_of_mem_drop hu))
    rwa [show i + (n - i) = n by omega] at h
  obtain ⟨c1, k1, k2, k3⟩ := setCells_blockR (xs.drop ((i + 1) * 2)) w.drew g (i * 2) 98 (0, 0) cur hg (by rw [hdl, hs]; omega)
  obtain ⟨W1, hW1⟩ : ∃ W1, w.drew.setCells g (i * 2) (xs.drop ((i + 1) * 2)) = W1 := ⟨_, rfl⟩
  rw [hW1] at hcp1 k1 hfin
  have hclr : ∀ ty c, (Builtin.clear_ #[88] ty #[.slice (some ⟨g, n * 2, none⟩) 1 c]).run Try.prog W1 = .ok (.tuple #[]) (W1.setCells g (n * 2) [.int .i64 0, .int .i64 0]) := fun ty c => run_clear_one W1 88 ty 98 (.agg #[.int .i64 0, .int .i64 0]) g (n * 2) c 98 c1 Try.underlying88 zero_el k1 (by rw [k2, hs]; simp [Value.cells]; omega) (by simp [Value.cells, Value.oneCell'])
  have hfin2 : Hid ((W1.setCells g (n * 2) [.int .i64 0, .int .i64 0]).ownsRow base 98 2 (.slice (some ⟨g, 0, none⟩) n cap) n (xs.take (i * 2) ++ xs.drop ((i + 1) * 2)) ∧ w.grownBy (W1.setCells g (n * 2) [.int .i64 0, .int .i64 0]) (some g)) := ⟨hfin.1, grown_undrew hfin.2⟩
  have HC1 := Lib.hid hcp1
  have HCL := Lib.hid hclr
  simp only [maxLen] at hm
  have hz2 : ((i : Int) == (i : Int) + 1) = false := by simp; omega
  have hb1 : (i : Int) + 1 ≤ (n : Int) + 1 := by omega
  have hb0 : (0 : Int) ≤ (i : Int) + 1 := by omega
  have hin : i ≤ n := by omega
  have hin1 : i + 1 ≤ n + 1 := by omega
  have hin2 : (i : Int) ≤ (i : Int) + 1 := by omega
  have htn : ((i : Int) + 1).toNat = i + 1 := by omega
  have hb2 : ¬ (cap = i + 1) := by omega
  have hb3 : ¬ (n + 1 = i) := by omega
  have hb4 : ¬ (cap = i) := by omega
  have hb5 : ¬ (cap = n) := by omega
  have hb6 : (i : Int) ≤ (cap : Int) := by omega
  clear hdl hfin hcp1 k1 k2 k3 hclr hown hx1 hg hs hl hx hW1
  go_enter Try.func52, Try.ntmps52
  go_wp2_with fail
  go_region_law ((refine step_append_run rfl _ _ 88 88 rfl (.slice (some ⟨g, 0, none⟩) i cap) (.slice (some ⟨g, (i + 1) * 2, none⟩) (n - i) (cap - (i + 1))) (by simp [Act.eval, Act.put]) (by simp [Act.eval, Act.put]) (HC1.out _ (cap - (i + 1))) ?_))
  go_wp2_with (refine wpList_clear_run (o := ⟨none, _, _, _, _, _⟩) rfl (.tmp 31) 88 rfl _ rfl (HCL.out _ _) ?_)
  go_ret
  exact ⟨_, rfl, hfin2.out.1, hfin2.out.2, .inl rfl⟩
set_option maxRecDepth 100000 in
set_option maxHeartbeats 4000000 in
theorem delete_last (w : World) (base n g cap : Nat) (xs : List Value) (hown : w.ownsRow base 98 2 (.slice (some ⟨g, 0, none⟩) (n + 1) cap) (n + 1) xs) (hn : n ≤ 100000) :
    Calls Try.prog 52 #[.slice (some ⟨g, 0, none⟩) (n + 1) cap, .int .i64 (n : Nat), .int .i64 ((n : Nat) + 1)] w (Made w base (.slice (some ⟨g, 0, none⟩) (n + 1) cap) n (xs.take (n * 2))) := by
  obtain ⟨g', cap', cur, e0, hbg, hg, hnc, hm, hs, hl, hx⟩ := own_some hown (by omega)
  cases e0
  have hdl : (xs.drop ((n + 1) * 2)) = [] := List.drop_of_length_le (by omega)
  have hfin := own_gone (w := w.drew) (i := n) (zs := [.int .i64 0, .int .i64 0]) hbg hg hnc hm hs hl hx (by omega) rfl
  have hcp1 : ∀ ty sp c, (Builtin.append_ #[88, 88] ty #[.slice (some ⟨g, 0, none⟩) n cap, .slice sp 0 c]).run Try.prog w.drew = .ok (.slice (some ⟨g, 0, none⟩) n cap) w.drew := fun ty sp c =>
    run_append_room w.drew 88 ty 98 2 g n cap sp 0 c 98 [] cur Try.underlying88 size_el (by omega) (by simp) hg (by rw [hs]; simp; omega) (fun h => absurd h (Nat.lt_irrefl _)) (by simp)
  rw [hdl, List.append_nil] at hfin
  have hclr : ∀ ty c, (Builtin.clear_ #[88] ty #[.slice (some ⟨g, n * 2, none⟩) 1 c]).run Try.prog w.drew = .ok (.tuple #[]) (w.drew.setCells g (n * 2) [.int .i64 0, .int .i64 0]) := fun ty c => run_clear_one w.drew 88 ty 98 (.agg #[.int .i64 0, .int .i64 0]) g (n * 2) c 98 cur Try.underlying88 zero_el hg (by rw [hs]; simp [Value.cells]; omega) (by simp [Value.cells, Value.oneCell'])
  have hfin2 : Hid ((w.drew.setCells g (n * 2) [.int .i64 0, .int .i64 0]).ownsRow base 98 2 (.slice (some ⟨g, 0, none⟩) n cap) n (xs.take (n * 2)) ∧ w.grownBy (w.drew.setCells g (n * 2) [.int .i64 0, .int .i64 0]) (some g)) := ⟨hfin.1, grown_undrew hfin.2⟩
  have HC1 := Lib.hid hcp1
  have HCL := Lib.hid hclr
  simp only [maxLen] at hm
  have hz2 : ((n : Int) == (n : Int) + 1) = false := beq_eq_false_iff_ne.2 (by omega)
  have hb1 : (n : Int) + 1 ≤ (n : Int) + 1 := by omega
  have hb0 : (0 : Int) ≤ (n : Int) + 1 := by omega
  have hin2 : (n : Int) ≤ (n : Int) + 1 := by omega
  have htn : ((n : Int) + 1).toNat = n + 1 := by omega
  have hb4 : ¬ (cap = n) := by omega
  have hb6 : (n : Int) ≤ (cap : Int) := by omega
  clear hdl hfin hcp1 hclr hown hg hs hl hx
  by_cases hb2 : cap = n + 1
  · subst hb2
    go_enter Try.func52, Try.ntmps52
    go_wp2_with fail
    go_region_law ((refine step_append_run rfl _ _ 88 88 rfl (.slice (some ⟨g, 0, none⟩) n (n + 1)) (.slice (some ⟨g, 0, none⟩) 0 0) (by simp [Act.eval, Act.put]) (by simp [Act.eval, Act.put]) (HC1.out _ _ _) ?_))
    go_wp2_with (refine wpList_clear_run (o := ⟨none, _, _, _, _, _⟩) rfl (.tmp 31) 88 rfl _ rfl (HCL.out _ _) ?_)
    go_ret
    exact ⟨_, rfl, hfin2.out.1, hfin2.out.2, .inl rfl⟩
  · go_enter Try.func52, Try.ntmps52
    go_wp2_with fail
    go_region_law ((refine step_append_run rfl _ _ 88 88 rfl (.slice (some ⟨g, 0, none⟩) n cap) (.slice (some ⟨g, (n + 1) * 2, none⟩) 0 (cap - (n + 1))) (by simp [Act.eval, Act.put]) (by simp [Act.eval, Act.put]) (HC1.out _ _ _) ?_))
    go_wp2_with (refine wpList_clear_run (o := ⟨none, _, _, _, _, _⟩) rfl (.tmp 31) 88 rfl _ rfl (HCL.out _ _) ?_)
    go_ret
    exact ⟨_, rfl, hfin2.out.1, hfin2.out.2, .inl rfl⟩
theorem delete_any (w : World) (base n i : Nat) (v : Value) (xs : List Value) (hown : w.ownsRow base 98 2 v (n + 1) xs) (hi : i ≤ n) (hn : n ≤ 100000) (hx1 : ∀ u ∈ xs, u.oneCell' = true) :
    Calls Try.prog 52 #[v, .int .i64 (i : Nat), .int .i64 ((i : Nat) + 1)] w (Made w base v n (xs.take (i * 2) ++ xs.drop ((i + 1) * 2))) := by
  obtain ⟨g, cap, cur, rfl, _⟩ := own_some hown (by omega)
  by_cases hin : i = n
  · subst hin
    have hl := hown.1
    rw [List.drop_of_length_le (by omega), List.append_nil]
    exact delete_last w base i g cap xs hown hn
  · exact delete_mid w base n i g cap xs hown (by omega) hn hx1
/-- What slices.Clone has made: nothing else has turned. -/
def Cloned (w : World) (n : Nat) (xs : List Value) (e : Ending) (w' : World) : Prop := ∃ v', e = .returned v' ∧ w'.ownsRow w.heap.size 98 2 v' n xs ∧ Below w.heap.size w w'
end Go.Proofs.Ythofimkjemhnoaa