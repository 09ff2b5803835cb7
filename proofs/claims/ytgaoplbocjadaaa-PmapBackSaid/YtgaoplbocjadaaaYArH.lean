/- The objects of the section. -/
import Derived.Test.YtgaoplbocjadaaaYArG
namespace Go.Proofs.Ytgaoplbocjadaaa
open Go.RowKit
set_option linter.unusedSimpArgs false
set_option linter.unusedVariables false
theorem info_objE : (Try.prog.info? 174).map (fun i => (i.zero, i.size, i.bytes)) = some (some (.agg #[.int .i64 0, .slice none 0 0]), 2, 32) := by kernel_rfl
abbrev Ob := Int × Value × List Sp
def obF (M : List Ob) : List Value := (M.map fun m => [Value.int .i64 m.1, m.2.1]).flatten
theorem obF_len (M : List Ob) : (obF M).length = M.length * 2 := by
  induction M with
  | nil => rfl
  | cons x m ih => simp [obF] at ih ⊢; omega
theorem obF_app (M N : List Ob) : obF (M ++ N) = obF M ++ obF N := by simp [obF]
def obK (M : List Ob) : List (Int × List Sp) := M.map fun m => (m.1, m.2.2)
structure ObAt (w : World) (base : Nat) (V : Value) (M : List Ob) : Prop where
  row : w.ownsRow base 174 2 V M.length (obF M)
  subs : ∀ m ∈ M, SpAt w base m.2.1 m.2.2
theorem ObAt.below {w w' : World} {base : Nat} {V : Value} {M : List Ob} (h : ObAt w base V M) (hb : Below w.heap.size w w') : ObAt w' base V M :=
  ⟨own_below h.row hb, fun m hm => (h.subs m hm).below hb⟩
theorem ObAt.nil (w : World) (base : Nat) : ObAt w base (.slice none 0 0) [] := ⟨⟨rfl, .inl ⟨rfl, rfl⟩⟩, fun _ h => by cases h⟩
/-- What an append leaves of rows of other elements. -/
theorem sp_grown {w w' : World} {base base' e s n : Nat} {V v : Value} {xs : List Value} {l : List Sp} (hV : w.ownsRow base' e s V n xs) (he : 75 ≠ e) (hg : w.grownBy w' V.ownBlock) (h : SpAt w base v l) : SpAt w' base v l := by
  refine ⟨h.1, h.2.imp id ?_⟩
  rintro ⟨b, cap, cur, rfl, h1, h2, h3⟩
  refine ⟨b, cap, cur, rfl, h1, ?_, h3⟩
  refine (hg.block b (Array.getElem?_eq_some_iff.1 h2).1 (fun e' => ?_)).trans h2
  rcases hV.2 with ⟨rfl, _⟩ | ⟨b2, cap2, cur2, rfl, _, k2, _⟩
  · cases e'
  · cases e'
    rw [h2] at k2
    cases k2
    exact he rfl
theorem ObAt.app {w w' : World} {base : Nat} {V v' : Value} {M N : List Ob} (h : ObAt w base V M) (hr : w'.ownsRow base 174 2 v' (M.length + N.length) (obF M ++ obF N)) (hg : w.grownBy w' V.ownBlock) (hN : ∀ m ∈ N, SpAt w base m.2.1 m.2.2) : ObAt w' base v' (M ++ N) := by
  refine ⟨by rw [List.length_append, obF_app]; exact hr, fun m hm => ?_⟩
  rcases List.mem_append.1 hm with hm | hm
  · exact sp_grown h.row (by decide) hg (h.subs m hm)
  · exact sp_grown h.row (by decide) hg (hN m hm)
theorem ObAt.blk {w : World} {base : Nat} {V : Value} {M : List Ob} (h : ObAt w base V M) : ∀ k, V.ownBlock = some k → base ≤ k := fun k e => by
  rcases h.row.2 with ⟨rfl, _⟩ | ⟨b2, cap2, cur2, rfl, hb, _⟩
  · cases e
  · cases e; exact hb
theorem ob_cells {X : World} {g : Nat} {i : Int} {v : Value} (hg : X.heap[g]? = some (.cells #[.int .i64 i, v] 174 (0, 0))) : ∀ jj u, ([.int .i64 i, v] : List Value)[jj]? = some u → X.cell? ((⟨g, 0, none⟩ : Addr).add jj) = some u := fun jj u h => by
  rw [add_plainR, Nat.zero_add, cell_of_row _ _ _ _ _ _ hg]
  simpa using h
theorem ob_cells2 {X : World} {g : Nat} {i j : Int} {v u : Value} (hg : X.heap[g]? = some (.cells #[.int .i64 i, v, .int .i64 j, u] 174 (0, 0))) : ∀ jj x, ([.int .i64 i, v, .int .i64 j, u] : List Value)[jj]? = some x → X.cell? ((⟨g, 0, none⟩ : Addr).add jj) = some x := fun jj x h => by
  rw [add_plainR, Nat.zero_add, cell_of_row _ _ _ _ _ _ hg]
  simpa using h
def tabL (q : Nat) : List (Int × List Sp) := (List.range q).map fun (c : Nat) => ((4865 : Int) + (c : Int), tabS)
theorem tabL_succ (q : Nat) : tabL (q + 1) = tabL q ++ [(4865 + (q : Int), tabS)] := by simp [tabL, List.range_succ]
def mapS : List Sp := (2, 3, 0, 8) :: List.replicate 8 (4, 3, 0, 4294967295)
def mapL (q : Nat) : List (Int × List Sp) := (List.range q).map fun (c : Nat) => ((4993 : Int) + (c : Int), mapS)
theorem mapL_succ (q : Nat) : mapL (q + 1) = mapL q ++ [(4993 + (q : Int), mapS)] := by simp [mapL, List.range_succ]
def sigS : List Sp := (2, 4, 4, 4) :: List.replicate 4 (3, 3, 0, 65535)
def objL : List (Int × List Sp) := tabL 4 ++ mapL 4 ++ [(5118, [(2, 3, 0, 255)]), (5119, sigS)]
theorem all4 (w : World) : Calls Try.prog 126 #[.int .i64 4] w fun e w' => e = .returned (.agg #[.int .i64 4, .int .i64 3, .int .i64 0, .int .i64 4294967295]) ∧ Below w.heap.size w w' := arA_any 4 w
theorem all3 (w : World) : Calls Try.prog 126 #[.int .i64 3] w fun e w' => e = .returned (.agg #[.int .i64 3, .int .i64 3, .int .i64 0, .int .i64 65535]) ∧ Below w.heap.size w w' := arA_any 3 w
theorem all2 (w : World) : Calls Try.prog 126 #[.int .i64 2] w fun e w' => e = .returned (.agg #[.int .i64 2, .int .i64 3, .int .i64 0, .int .i64 255]) ∧ Below w.heap.size w w' := arA_any 2 w
theorem obK_app (M N : List Ob) : obK (M ++ N) = obK M ++ obK N := by simp [obK]
set_option maxRecDepth 100000 in
set_option maxHeartbeats 4000000 in
theorem objects_any (w : World) : Calls Try.prog 95 #[] w fun e w' => ∃ V M, e = .returned V ∧ obK M = objL ∧ ObAt w' w.heap.size V M ∧ Below w.heap.size w w' := by
  obtain ⟨i0, hi0, hz0', hz1', hz2'⟩ := info_parts info_objE
  have HI := Lib.hid hi0
  clear hi0
  go_enter Try.func95, Try.ntmps95
  go_wp2_with fail
  go_loopw [1, 4] (fun V i wr => ∃ (q : Nat) (M : List Ob), q ≤ 4 ∧ i = .int .i64 q ∧ Hid (obK M = tabL q) ∧ Hid (ObAt wr w.heap.size V M) ∧ Hid (Below w.heap.size w wr)) (fun _ i _ => 4 - (intOf i).toNat)
  case atStart => exact ⟨0, [], by omega, rfl, Lib.hid rfl, Lib.hid (ObAt.nil _ _), Lib.hid (Below.refl _ _)⟩
  case round =>
    obtain ⟨q, M, hq, rfl, HK, HO, HB⟩ := hrel
    by_cases hlt : q < 4
    · go_wp2_with fail
      refine (table_any _).mono ?_
      rintro e w1 ⟨v, rfl, hsp, hb1⟩
      obtain ⟨g, cap, cur, e1, -⟩ := own_some hsp (by decide)
      obtain rfl : v = .slice (some ⟨g, 0, none⟩) 7 cap := e1
      have HB1 := Lib.hid (kF hb1 HB.out)
      have HO1 := Lib.hid (HO.out.below hb1)
      have HSP := Lib.hid (hsp.mono HB.out.size)
      clear hb1 hsp HO HB
      have HRW := Lib.hid (heap_alloc_new w1 (.cells #[.int .i64 (4865 + (q : Int)), .slice (some ⟨g, 0, none⟩) 7 cap] 174))
      have hba : Below w1.heap.size w1 (w1.alloc (.cells #[.int .i64 (4865 + (q : Int)), .slice (some ⟨g, 0, none⟩) 7 cap] 174)) := (Below.refl _ _).alloc (Nat.le_refl _) _
      have HO2 := Lib.hid (HO1.out.below hba)
      have HSP2 := Lib.hid (HSP.out.below hba)
      have HB2 := Lib.hid (kF hba HB1.out)
      have hm4 : M.length ≤ 8 := by
        have := congrArg List.length HK.out
        simp [obK, tabL] at this
        omega
      clear hba HSP HO1 HB1
      go_wp2_with (at_builtin; refine wpList_append_own _ rfl (.tmp 7) (.tmp 12) 171 rfl w.heap.size 174 i0 (.agg #[.int .i64 0, .slice none 0 0]) 2 32 Try.underlying171 HI.out hz0' hz1' hz2' rfl (by omega) _ M.length (obF M) rfl HO2.out.row ⟨w1.heap.size, 0, none⟩ 1 1 [.int .i64 (4865 + (q : Int)), .slice (some ⟨g, 0, none⟩) 7 cap] rfl rfl (ob_cells HRW.out) (by simp [Value.oneCell']) (by simp [maxLen]; omega) (by omega) HB2.out.size ?_; intro v' w' r1 r2 _)
      have HO3 : Hid (ObAt w' w.heap.size v' (M ++ [(4865 + (q : Int), .slice (some ⟨g, 0, none⟩) 7 cap, tabS)])) := Lib.hid (HO2.out.app r1 r2 (fun m hm => by rw [List.mem_singleton.1 hm]; exact HSP2.out))
      have HB3 : Hid (Below w.heap.size w w') := Lib.hid (HB2.out.grown r2 HB2.out.size HO2.out.blk)
      have HK3 : Hid (obK (M ++ [(4865 + (q : Int), .slice (some ⟨g, 0, none⟩) 7 cap, tabS)]) = tabL (q + 1)) := Lib.hid (by rw [obK_app, HK.out, tabL_succ]; rfl)
      exact ⟨⟨q + 1, _, by omega, by go_num, HK3, HO3, HB3⟩, by simp [intOf]; omega⟩
    · have HQ4 : Hid (q = 4) := Lib.hid (by omega)
      have HK4 : Hid (obK M = tabL 4) := Lib.hid (by rw [← HQ4.out]; exact HK.out)
      clear HQ4 HK
      go_wp2_with fail
      go_loopw [1, 15] (fun V i wr => ∃ (q : Nat) (M : List Ob), q ≤ 4 ∧ i = .int .i64 q ∧ Hid (obK M = tabL 4 ++ mapL q) ∧ Hid (ObAt wr w.heap.size V M) ∧ Hid (Below w.heap.size w wr)) (fun _ i _ => 4 - (intOf i).toNat)
      case atStart => exact ⟨0, M, by omega, rfl, Lib.hid (by rw [HK4.out]; rfl), HO, HB⟩
      case round =>
        clear HK4 HO HB
        obtain ⟨p, M, hp, rfl, HK, HO, HB⟩ := hrel
        by_cases hlt2 : p < 4
        · go_wp2_with fail
          refine (arN_any 2 0 8 _).mono ?_
          rintro e w3 ⟨rfl, hb3⟩
          have HB3 := Lib.hid (kF hb3 HB.out)
          have HO3 := Lib.hid (HO.out.below hb3)
          clear hb3 HO HB
          go_wp2_with fail
          refine (all4 _).mono ?_
          rintro e w4 ⟨rfl, hb4⟩
          have HB4 := Lib.hid (kF hb4 HB3.out)
          have HO4 := Lib.hid (HO3.out.below hb4)
          clear hb4 HO3 HB3
          go_wp2_with fail
          refine (behind_any _ 8 2 3 0 8 4 3 0 4294967295 (.inl rfl)).mono ?_
          rintro e w1 ⟨v, rfl, hsp, hb1⟩
          obtain ⟨g, cap, cur, e1, -⟩ := own_some hsp (by decide)
          obtain rfl : v = .slice (some ⟨g, 0, none⟩) 9 cap := e1
          have HB1 := Lib.hid (kF hb1 HB4.out)
          have HO1 := Lib.hid (HO4.out.below hb1)
          have HSP : Hid (SpAt w1 w.heap.size (.slice (some ⟨g, 0, none⟩) 9 cap) mapS) := Lib.hid (hsp.mono HB4.out.size)
          clear hb1 hsp HO4 HB4
          have HRW := Lib.hid (heap_alloc_new w1 (.cells #[.int .i64 (4993 + (p : Int)), .slice (some ⟨g, 0, none⟩) 9 cap] 174))
          have hba : Below w1.heap.size w1 (w1.alloc (.cells #[.int .i64 (4993 + (p : Int)), .slice (some ⟨g, 0, none⟩) 9 cap] 174)) := (Below.refl _ _).alloc (Nat.le_refl _) _
          have HO2 := Lib.hid (HO1.out.below hba)
          have HSP2 := Lib.hid (HSP.out.below hba)
          have HB2 := Lib.hid (kF hba HB1.out)
          have hm4 : M.length ≤ 8 := by
            have := congrArg List.length HK.out
            simp [obK, tabL, mapL] at this
            omega
          clear hba HSP HO1 HB1
          go_wp2_with (at_builtin; refine wpList_append_own _ rfl (.tmp 18) (.tmp 25) 171 rfl w.heap.size 174 i0 (.agg #[.int .i64 0, .slice none 0 0]) 2 32 Try.underlying171 HI.out hz0' hz1' hz2' rfl (by omega) _ M.length (obF M) rfl HO2.out.row ⟨w1.heap.size, 0, none⟩ 1 1 [.int .i64 (4993 + (p : Int)), .slice (some ⟨g, 0, none⟩) 9 cap] rfl rfl (ob_cells HRW.out) (by simp [Value.oneCell']) (by simp [maxLen]; omega) (by omega) HB2.out.size ?_; intro v' w' r1 r2 _)
          have HO3 : Hid (ObAt w' w.heap.size v' (M ++ [(4993 + (p : Int), .slice (some ⟨g, 0, none⟩) 9 cap, mapS)])) := Lib.hid (HO2.out.app r1 r2 (fun m hm => by rw [List.mem_singleton.1 hm]; exact HSP2.out))
          have HB3 : Hid (Below w.heap.size w w') := Lib.hid (HB2.out.grown r2 HB2.out.size HO2.out.blk)
          have HK3 : Hid (obK (M ++ [(4993 + (p : Int), .slice (some ⟨g, 0, none⟩) 9 cap, mapS)]) = tabL 4 ++ mapL (p + 1)) := Lib.hid (by rw [obK_app, HK.out, mapL_succ]; rw [← List.append_assoc]; rfl)
          exact ⟨⟨p + 1, _, by omega, by go_num, HK3, HO3, HB3⟩, by simp [intOf]; omega⟩
        · have HQ4 : Hid (p = 4) := Lib.hid (by omega)
          have HK4 : Hid (obK M = tabL 4 ++ mapL 4) := Lib.hid (by rw [HK.out, HQ4.out])
          clear HQ4 HK
          have hm8 : M.length = 8 := by
            have := congrArg List.length HK4.out
            simpa [obK, tabL, mapL] using this
          go_wp2_with fail
          refine (all2 _).mono ?_
          rintro e w1 ⟨rfl, hb1⟩
          have HB1 := Lib.hid (kF hb1 HB.out)
          have HO1 := Lib.hid (HO.out.below hb1)
          clear hb1 HO HB
          go_wp2_with fail
          have hba : Below w1.heap.size w1 (w1.alloc (.cells #[.int .i64 2, .int .i64 3, .int .i64 0, .int .i64 255] 75)) := (Below.refl _ _).alloc (Nat.le_refl _) _
          have HB2 := Lib.hid (kF hba HB1.out)
          have HO2 := Lib.hid (HO1.out.below hba)
          have HX2 : Hid (SpAt (w1.alloc (.cells #[.int .i64 2, .int .i64 3, .int .i64 0, .int .i64 255] 75)) w.heap.size (.slice (some ⟨w1.heap.size, 0, none⟩) 1 1) [(2, 3, 0, 255)]) := Lib.hid ((SpAt.new w1 [(2, 3, 0, 255)] (by simp) (by simp)).mono HB1.out.size)
          clear hba HB1 HO1
          generalize (w1.alloc (.cells #[.int .i64 2, .int .i64 3, .int .i64 0, .int .i64 255] 75)) = w2 at *
          generalize w1.heap.size = gx at *
          refine (arC_any 4 _).mono ?_
          rintro e w3 ⟨rfl, hb3⟩
          have HB3 := Lib.hid (kF hb3 HB2.out)
          have HO3 := Lib.hid (HO2.out.below hb3)
          have HX3 := Lib.hid (HX2.out.below hb3)
          clear hb3 HO2 HB2 HX2
          go_wp2_with fail
          refine (all3 _).mono ?_
          rintro e w4 ⟨rfl, hb4⟩
          have HB4 := Lib.hid (kF hb4 HB3.out)
          have HO4 := Lib.hid (HO3.out.below hb4)
          have HX4 := Lib.hid (HX3.out.below hb4)
          clear hb4 HO3 HB3 HX3
          go_wp2_with fail
          refine (behind_any _ 4 2 4 4 4 3 3 0 65535 (.inr rfl)).mono ?_
          rintro e w5 ⟨v5, rfl, hsp, hb5⟩
          obtain ⟨g, cap, cur, e1, -⟩ := own_some hsp (by decide)
          obtain rfl : v5 = .slice (some ⟨g, 0, none⟩) 5 cap := e1
          have HB5 := Lib.hid (kF hb5 HB4.out)
          have HO5 := Lib.hid (HO4.out.below hb5)
          have HX5 := Lib.hid (HX4.out.below hb5)
          have HSP : Hid (SpAt w5 w.heap.size (.slice (some ⟨g, 0, none⟩) 5 cap) sigS) := Lib.hid (hsp.mono HB4.out.size)
          clear hb5 hsp HO4 HB4 HX4
          have HRW := Lib.hid (heap_alloc_new w5 (.cells #[.int .i64 5118, .slice (some ⟨gx, 0, none⟩) 1 1, .int .i64 5119, .slice (some ⟨g, 0, none⟩) 5 cap] 174))
          have hba : Below w5.heap.size w5 (w5.alloc (.cells #[.int .i64 5118, .slice (some ⟨gx, 0, none⟩) 1 1, .int .i64 5119, .slice (some ⟨g, 0, none⟩) 5 cap] 174)) := (Below.refl _ _).alloc (Nat.le_refl _) _
          have HO6 := Lib.hid (HO5.out.below hba)
          have HX6 := Lib.hid (HX5.out.below hba)
          have HSP6 := Lib.hid (HSP.out.below hba)
          have HB6 := Lib.hid (kF hba HB5.out)
          clear hba HSP HO5 HB5 HX5
          go_wp2_with (at_builtin; refine wpList_append_own _ rfl (.tmp 28) (.tmp 36) 171 rfl w.heap.size 174 i0 (.agg #[.int .i64 0, .slice none 0 0]) 2 32 Try.underlying171 HI.out hz0' hz1' hz2' rfl (by omega) _ M.length (obF M) rfl HO6.out.row ⟨w5.heap.size, 0, none⟩ 2 2 [.int .i64 5118, .slice (some ⟨gx, 0, none⟩) 1 1, .int .i64 5119, .slice (some ⟨g, 0, none⟩) 5 cap] rfl rfl (ob_cells2 HRW.out) (by simp [Value.oneCell']) (by simp [maxLen]; omega) (by omega) HB6.out.size ?_; intro v' w' r1 r2 _)
          go_ret
          refine ⟨v', M ++ [(5118, .slice (some ⟨gx, 0, none⟩) 1 1, [(2, 3, 0, 255)]), (5119, .slice (some ⟨g, 0, none⟩) 5 cap, sigS)], rfl, by rw [obK_app, HK4.out]; rfl, HO6.out.app (N := [(5118, .slice (some ⟨gx, 0, none⟩) 1 1, [(2, 3, 0, 255)]), (5119, .slice (some ⟨g, 0, none⟩) 5 cap, sigS)]) r1 r2 (fun m hm => ?_), HB6.out.grown r2 HB6.out.size HO6.out.blk⟩
          simp only [List.mem_cons, List.not_mem_nil, or_false] at hm
          rcases hm with rfl | rfl
          · exact HX6.out
          · exact HSP6.out
end Go.Proofs.Ytgaoplbocjadaaa