/- slices.Delete of the first ones of a row. -/
import Derived.Test.YthofimkjemhnoaaPBTp
namespace Go.Proofs.Ythofimkjemhnoaa
open Go.RowKit
set_option linter.unusedSimpArgs false
set_option linter.unusedVariables false
theorem run_clear_many {P : Program} (w : World) (t ty elem : Nat) (z : Value) (b o c e m : Nat) (cur : Array Value) (ht : P.underlying t = some (.slice elem)) (hv : ∀ w, (zeroValue elem).run P w = .ok z w) (hb : w.heap[b]? = some (.cells cur e (0, 0)))
    (hm : 0 < m) (hfit : o + m * z.cells.size ≤ cur.size) (h1 : ∀ v ∈ (Builtin.zeroCells z.cells m).toList, v.oneCell' = true) :
    (Builtin.clear_ #[t] ty #[.slice (some ⟨b, o, none⟩) m c]).run P w = .ok (.tuple #[]) (w.setCells b o (Builtin.zeroCells z.cells m).toList) := by
  obtain ⟨m, rfl⟩ : ∃ k, m = k + 1 := ⟨m - 1, by omega⟩
  have hst := run_stores (P := P) (o := o) hb (Builtin.zeroCells z.cells (m + 1)).toList (by have := zero_size z.cells (m + 1); simp only [Array.length_toList]; omega) h1
  simp [Builtin.clear_, run_underlying ht, hv, hst]
theorem own_head {w : World} {base e s n m g cap : Nat} {cur : Array Value} {xs zs : List Value} (hb : base ≤ g) (hg : w.heap[g]? = some (.cells cur e (0, 0))) (hnc : n + m ≤ cap) (hm : cap ≤ maxLen) (hs : cur.size = cap * s) (hl : xs.length = (n + m) * s) (hz : zs.length = m * s) :
    ((w.setCells g 0 (xs.drop (m * s))).setCells g (n * s) zs).ownsRow base e s (.slice (some ⟨g, 0, none⟩) n cap) n (xs.drop (m * s)) ∧
    w.grownBy ((w.setCells g 0 (xs.drop (m * s))).setCells g (n * s) zs) (some g) := by
  refine ⟨?_, setCells_grownR _ _ _ (setCells_grownR _ _ _ (grown_refl w _))⟩
  have hdl : (xs.drop (m * s)).length = n * s := by rw [List.length_drop, hl, Nat.add_mul]; omega
  have hcap : (n + m) * s ≤ cap * s := Nat.mul_le_mul_right s hnc
  rw [Nat.add_mul] at hcap
  obtain ⟨cur1, hg1, hs1, hc1⟩ := setCells_blockR (xs.drop (m * s)) w g 0 e (0, 0) cur hg (by omega)
  obtain ⟨cur2, hg2, hs2, hc2⟩ := setCells_blockR zs _ g (n * s) e (0, 0) cur1 hg1 (by omega)
  refine own_mk hb hg2 (by omega) hm (by omega) hdl fun k hk => ?_
  rw [hc2, if_neg (by omega), hc1, if_pos (by omega), Nat.sub_zero]

theorem zoneT (m : Nat) : ∀ v ∈ (Builtin.zeroCells (Value.cells (.agg #[.int .i64 0, .int .i64 0])) m).toList, v.oneCell' = true := fun v hv => by
  simp only [Builtin.zeroCells, Array.toList_map, Array.toList_range, List.mem_map, List.mem_range] at hv
  obtain ⟨i, hi, rfl⟩ := hv
  have h2 : i % 2 = 0 ∨ i % 2 = 1 := by omega
  rcases h2 with h | h <;> simp [Value.cells, h, Value.oneCell']
set_option maxRecDepth 100000 in
set_option maxHeartbeats 4000000 in
theorem delete_headT (w : World) (base n m : Nat) (v : Value) (xs : List Value) (hown : w.ownsRow base 93 2 v (n + m) xs) (hm0 : 0 < m) (hn : n + m ≤ 100000) (hx1 : ∀ u ∈ xs, u.oneCell' = true) :
    Calls Try.prog 46 #[v, .int .i64 0, .int .i64 (m : Nat)] w (MadeT w base v n (xs.drop (m * 2))) := by
  obtain ⟨g, cap, cur, rfl, hbg, hg, hnc, hm, hs, hl, hx⟩ := own_some hown (by omega)
  have hzs : (Builtin.zeroCells (Value.cells (.agg #[.int .i64 0, .int .i64 0])) m).toList.length = m * 2 := by rw [Array.length_toList, zero_size]; rfl
  have hdl : (xs.drop (m * 2)).length = n * 2 := by rw [List.length_drop, hl]; omega
  have hfin := own_head (w := w.drew) (zs := (Builtin.zeroCells (Value.cells (.agg #[.int .i64 0, .int .i64 0])) m).toList) hbg hg hnc hm hs hl hzs
  have hcp : ∀ ty sp c, ((n = 0) ∨ sp = some ⟨g, m * 2, none⟩) → (Builtin.append_ #[80, 80] ty #[.slice (some ⟨g, 0, none⟩) 0 cap, .slice sp n c]).run Try.prog w.drew = .ok (.slice (some ⟨g, 0, none⟩) n cap) (w.drew.setCells g 0 (xs.drop (m * 2))) := fun ty sp c hsp => by
    have h := run_append_room w.drew 80 ty 93 2 g 0 cap sp n c 93 (xs.drop (m * 2)) cur Try.underlying80 size_elT (by omega) hdl hg (by rw [hdl, hs]; omega) (fun h0 => by
      rcases hsp with h | h
      · omega
      · exact ⟨_, h, fun j u hu => by
          have hj := (List.getElem?_eq_some_iff.1 hu).1
          rw [List.getElem?_drop] at hu
          rw [add_plainR]
          show w.cell? _ = _
          rw [own_cell hown (by omega), hu]⟩) (fun u hu => hx1 u (List.mem_of_mem_drop hu))
    simpa using h
  obtain ⟨cur1, hg1, hs1, _⟩ := setCells_blockR (xs.drop (m * 2)) w.drew g 0 93 (0, 0) cur hg (by omega)
  have hclr : ∀ ty c, (Builtin.clear_ #[80] ty #[.slice (some ⟨g, n * 2, none⟩) m c]).run Try.prog (w.drew.setCells g 0 (xs.drop (m * 2))) = .ok (.tuple #[]) ((w.drew.setCells g 0 (xs.drop (m * 2))).setCells g (n * 2) (Builtin.zeroCells (Value.cells (.agg #[.int .i64 0, .int .i64 0])) m).toList) := fun ty c =>
    run_clear_many _ 80 ty 93 (.agg #[.int .i64 0, .int .i64 0]) g (n * 2) c 93 m cur1 Try.underlying80 zero_elT hg1 hm0 (by rw [hs1, hs]; show n * 2 + m * 2 ≤ _; omega) (zoneT m)
  have hfin2 : Hid (((w.drew.setCells g 0 (xs.drop (m * 2))).setCells g (n * 2) (Builtin.zeroCells (Value.cells (.agg #[.int .i64 0, .int .i64 0])) m).toList).ownsRow base 93 2 (.slice (some ⟨g, 0, none⟩) n cap) n (xs.drop (m * 2)) ∧ w.grownBy ((w.drew.setCells g 0 (xs.drop (m * 2))).setCells g (n * 2) (Builtin.zeroCells (Value.cells (.agg #[.int .i64 0, .int .i64 0])) m).toList) (some g)) := ⟨hfin.1, grown_undrew hfin.2⟩
  have HCP := Lib.hid hcp
  have HCL := Lib.hid hclr
  simp only [maxLen] at hm
  have hz2 : ((0 : Int) == (m : Int)) = false := beq_eq_false_iff_ne.2 (by omega)
  have hb1 : (m : Int) ≤ ((n + m : Nat) : Int) := by omega
  have hb8 : (m : Int) ≤ (n : Int) + (m : Int) := by omega
  have hb9 : (n : Int) ≤ (n : Int) + (m : Int) := by omega
  have hb10 : (n : Int) + (m : Int) ≤ (cap : Int) := by omega
  have htn : ((n : Int) + (m : Int)).toNat = n + m := by omega
  have hb11 : (0 : Int) ≤ (n : Int) + (m : Int) := by omega
  have hb5 : ¬ (cap = n) := by omega
  have hnm : n + m - n = m := by omega
  have hnm2 : n + m - m = n := by omega
  have hb7 : (m : Int) ≤ (cap : Int) := by omega
  generalize xs.drop (m * 2) = ys at *
  generalize (Builtin.zeroCells (Value.cells (.agg #[.int .i64 0, .int .i64 0])) m).toList = zs at *
  clear hdl hfin hcp hclr hown hx1 hg hs hl hx hg1 hs1 hzs
  by_cases hcm : cap = m
  · subst hcm
    obtain rfl : n = 0 := by omega
    simp only [Nat.zero_mul, Nat.zero_add] at hfin2 HCL ⊢
    go_enter Try.func46, Try.ntmps46
    go_wp2_with fail
    go_region_law ((refine step_append_runT rfl _ _ 80 80 rfl (.slice (some ⟨g, 0, none⟩) 0 cap) (.slice (some ⟨g, 0, none⟩) 0 0) (by simp [Act.eval, Act.put]) (by simp [Act.eval, Act.put]) (HCP.out _ _ 0 (by first | exact .inr rfl | exact .inl rfl | exact .inl trivial)) ?_))
    go_wp2_with (refine wpList_clear_runT (o := ⟨none, _, _, _, _, _⟩) rfl (.tmp 31) 80 rfl _ rfl (HCL.out _ _) ?_)
    go_ret
    exact ⟨_, rfl, hfin2.out.1, hfin2.out.2, .inl rfl⟩
  · go_enter Try.func46, Try.ntmps46
    go_wp2_with fail
    go_region_law ((refine step_append_runT rfl _ _ 80 80 rfl (.slice (some ⟨g, 0, none⟩) 0 cap) (.slice (some ⟨g, m * 2, none⟩) n (cap - m)) (by simp [Act.eval, Act.put]) (by simp [Act.eval, Act.put]) (HCP.out _ _ (cap - m) (by first | exact .inr rfl | exact .inl rfl | exact .inl trivial)) ?_))
    go_wp2_with (refine wpList_clear_runT (o := ⟨none, _, _, _, _, _⟩) rfl (.tmp 31) 80 rfl _ rfl (HCL.out _ _) ?_)
    go_ret
    exact ⟨_, rfl, hfin2.out.1, hfin2.out.2, .inl rfl⟩

theorem zoneU (m : Nat) : ∀ v ∈ (Builtin.zeroCells (Value.cells (.agg #[.string ByteArray.empty, .int .i64 0])) m).toList, v.oneCell' = true := fun v hv => by
  simp only [Builtin.zeroCells, Array.toList_map, Array.toList_range, List.mem_map, List.mem_range] at hv
  obtain ⟨i, hi, rfl⟩ := hv
  have h2 : i % 2 = 0 ∨ i % 2 = 1 := by omega
  rcases h2 with h | h <;> simp [Value.cells, h, Value.oneCell']
end Go.Proofs.Ythofimkjemhnoaa