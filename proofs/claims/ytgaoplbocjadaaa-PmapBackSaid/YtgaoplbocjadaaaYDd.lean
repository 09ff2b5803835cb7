/- Put, where the number is there. -/
import Derived.Test.YtgaoplbocjadaaaYDc
namespace Go.Proofs.Ytgaoplbocjadaaa
open Go.RowKit
set_option linter.unusedSimpArgs false
set_option linter.unusedVariables false
theorem Tch.drew {w w1 : World} {g : Nat} {v : Value} (h : Tch w w1 g v) : Tch w w1.drew g v := ⟨h.os, h.tape, h.output, h.size, h.block⟩
theorem Sh.thing {tb tr : Nat} {w : World} {base g n b c : Nat} {cs : List Value} (h : Sh tb tr w base g n cs (.slice (some ⟨b, 0, none⟩) n c)) (j : Nat) (u : Value) : Sh tb tr (w.setCell ⟨b, j, none⟩ u) base g n (cs.set j u) (.slice (some ⟨b, 0, none⟩) n c) :=
  ⟨(Below.heap_setCell _ _ _ _ (fun e => h.isnt (by simp [Value.ownBlock, e]))).trans h.box, (h.row.stored j u).1, h.isnt⟩
set_option maxRecDepth 100000 in
set_option maxHeartbeats 4000000 in
theorem putE_old (w : World) (base g : Nat) (ls : List (Int × Ent)) (v : Value) (k : Int) (uk ua ul uh : Int) (ub : List Int) (h : Sh 184 202 w base g ls.length (fe ls) v) (hn : ls.length ≤ 1000) (hs : Rise ls) (hh : hasI k ls = true) :
    Calls Try.prog 94 #[.pointer (some ⟨g, 0, none⟩), .int .i64 k, entV ⟨uk, ua, ul, uh, ub⟩] w (ShPut 184 202 w base g (putI k ⟨uk, ua, ul, uh, ub⟩ ls).length (fe (putI k ⟨uk, ua, ul, uh, ub⟩ ls)) true v) := by
  obtain ⟨x, hx, hxk⟩ := hasI_at hh
  have e : putI k ⟨uk, ua, ul, uh, ub⟩ ls = ls.set (plcI k ls) (x.1, ⟨uk, ua, ul, uh, ub⟩) := by unfold putI; rw [hh, hxk]; rfl
  have hfl := setE ls (plcI k ls) x ⟨uk, ua, ul, uh, ub⟩ hx
  rw [e, ← hfl, List.length_set]
  have hlt := (List.getElem?_eq_some_iff.1 hx).1
  obtain ⟨b, cap, cur, rfl, hbb, hgb, hnc, hm, _⟩ := own_some h.row (by omega)
  simp only [maxLen] at hm
  dsimp only [entV]
  generalize strOfNums ub = S
  have hal : Below w.heap.size w (w.alloc (.cells #[.int .i64 uk, .int .i64 ua, .int .i64 ul, .int .i64 uh, .string S] 132)) := (Below.refl _ _).alloc (Nat.le_refl _) _
  have hx0 : Box5 (w.alloc (.cells #[.int .i64 uk, .int .i64 ua, .int .i64 ul, .int .i64 uh, .string S] 132)) w.heap.size uk ua ul uh S := heap_alloc_new w _
  have hpl := placeE _ base g ls _ k (h.below hal) (by omega) hs
  rw [hh] at hpl
  have hlw : w.heap.size < (w.alloc (.cells #[.int .i64 uk, .int .i64 ua, .int .i64 ul, .int .i64 uh, .string S] 132)).heap.size := by simp
  have HX := Lib.hid h
  have HA := Lib.hid hal
  have HX0 := Lib.hid hx0
  have HPL := Lib.hid hpl
  have HLW := Lib.hid hlw
  have HXX := Lib.hid hx
  have hgw := h.lt
  have hbw : b < w.heap.size := (Array.getElem?_eq_some_iff.1 hgb).1
  clear h hh hal hx0 hpl hlw hs e hfl hgb hx hxk
  generalize plcI k ls = P at *
  generalize hN : ls.length = N at *
  clear hN
  go_enter Try.func94, Try.ntmps94
  go_wp2_with fail
  generalize (w.alloc (.cells #[.int .i64 uk, .int .i64 ua, .int .i64 ul, .int .i64 uh, .string S] 132)) = w0 at HA HX0 HPL HLW ⊢
  refine HPL.out.mono ?_
  rintro e w2 ⟨rfl, hb2⟩
  have HB2 := Lib.hid (kF hb2 HA.out)
  have HX2 := Lib.hid (HX.out.below HB2.out)
  have HE2 : Hid (Box5 w2 w.heap.size uk ua ul uh S) := Lib.hid ((hb2.block _ HLW.out).trans HX0.out)
  obtain ⟨xn, xk, xa, xl, xh, xb⟩ := x
  obtain ⟨T, hT⟩ : ∃ T, strOfNums xb = T := ⟨_, rfl⟩
  have hS : ∀ x, Below w2.heap.size w2 x → x.cell? ⟨g, 0, none⟩ = some (.slice (some ⟨b, 0, none⟩) N cap) ∧ x.cell? ⟨w.heap.size, 0, none⟩ = some (.int .i64 uk) ∧ x.cell? ⟨w.heap.size, 1, none⟩ = some (.int .i64 ua) ∧ x.cell? ⟨w.heap.size, 2, none⟩ = some (.int .i64 ul) ∧ x.cell? ⟨w.heap.size, 3, none⟩ = some (.int .i64 uh) ∧ x.cell? ⟨w.heap.size, 4, none⟩ = some (.string S) ∧ x.cell? ⟨b, P * 6 + 1, none⟩ = some (.int .i64 xk) ∧ x.frozen? ⟨b, P * 6 + 1, none⟩ = false ∧ x.cell? ⟨b, P * 6 + 1 + 1, none⟩ = some (.int .i64 xa) ∧ x.frozen? ⟨b, P * 6 + 1 + 1, none⟩ = false ∧ x.cell? ⟨b, P * 6 + 1 + 2, none⟩ = some (.int .i64 xl) ∧ x.frozen? ⟨b, P * 6 + 1 + 2, none⟩ = false ∧ x.cell? ⟨b, P * 6 + 1 + 3, none⟩ = some (.int .i64 xh) ∧ x.frozen? ⟨b, P * 6 + 1 + 3, none⟩ = false ∧ x.cell? ⟨b, P * 6 + 1 + 4, none⟩ = some (.string T) ∧ x.frozen? ⟨b, P * 6 + 1 + 4, none⟩ = false := fun x hx => by
    have hsx := HX2.out.below hx
    obtain ⟨_, d1, d2, d3, d4, d5⟩ := cellsE hsx.row HXX.out
    simp only [hT] at d5
    exact ⟨hsx.cell, (Box5.cells ((hx.block _ (Array.getElem?_eq_some_iff.1 HE2.out).1).trans HE2.out)).1, (Box5.cells ((hx.block _ (Array.getElem?_eq_some_iff.1 HE2.out).1).trans HE2.out)).2.1, (Box5.cells ((hx.block _ (Array.getElem?_eq_some_iff.1 HE2.out).1).trans HE2.out)).2.2.1, (Box5.cells ((hx.block _ (Array.getElem?_eq_some_iff.1 HE2.out).1).trans HE2.out)).2.2.2.1, (Box5.cells ((hx.block _ (Array.getElem?_eq_some_iff.1 HE2.out).1).trans HE2.out)).2.2.2.2,
      d1, hsx.row.frozenAt _, d2, hsx.row.frozenAt _, d3, hsx.row.frozenAt _, d4, hsx.row.frozenAt _, d5, hsx.row.frozenAt _⟩
  have HS := Lib.hid hS
  have hPI : (P : Int) < (N : Int) := by omega
  have hfin : ShPut 184 202 w base g N ((((((fe ls).set (P * 6 + 1) (.int .i64 uk)).set (P * 6 + 2) (.int .i64 ua)).set (P * 6 + 3) (.int .i64 ul)).set (P * 6 + 4) (.int .i64 uh)).set (P * 6 + 5) (.string S)) true (.slice (some ⟨b, 0, none⟩) N cap) (.returned (.bool true)) ((((((w2.setCell ⟨b, P * 6 + 1, none⟩ (.int .i64 uk)).setCell ⟨b, P * 6 + 1 + 1, none⟩ (.int .i64 ua)).setCell ⟨b, P * 6 + 1 + 2, none⟩ (.int .i64 ul)).setCell ⟨b, P * 6 + 1 + 3, none⟩ (.int .i64 uh)).setCell ⟨b, P * 6 + 1 + 4, none⟩ (.string S)).drew) := by
    have h5 := ((((HX2.out.thing (P * 6 + 1) (.int .i64 uk)).thing (P * 6 + 2) (.int .i64 ua)).thing (P * 6 + 3) (.int .i64 ul)).thing (P * 6 + 4) (.int .i64 uh)).thing (P * 6 + 5) (.string S)
    refine ⟨rfl, ⟨_, h5.below (kD _), .inl rfl⟩, ?_⟩
    exact Tch.drew ((((((Tch.of_below HB2.out).grown (grown_set _ _ _ _)).grown (grown_set _ _ _ _)).grown (grown_set _ _ _ _)).grown (grown_set _ _ _ _)).grown (grown_set _ _ _ _))
  have HF := Lib.hid hfin
  have hS2 := HS.out w2 (Below.refl _ _)
  clear hb2 hS hfin hT HPL
  go_wp2_with fail
  refine wp_region_last (fun w' => w'.cell? ⟨g, 0, none⟩ = some (.slice (some ⟨b, 0, none⟩) N cap) ∧ w'.cell? ⟨w.heap.size, 0, none⟩ = some (.int .i64 uk) ∧ w'.cell? ⟨w.heap.size, 1, none⟩ = some (.int .i64 ua) ∧ w'.cell? ⟨w.heap.size, 2, none⟩ = some (.int .i64 ul) ∧ w'.cell? ⟨w.heap.size, 3, none⟩ = some (.int .i64 uh) ∧ w'.cell? ⟨w.heap.size, 4, none⟩ = some (.string S) ∧ w'.cell? ⟨b, P * 6 + 1, none⟩ = some (.int .i64 xk) ∧ w'.frozen? ⟨b, P * 6 + 1, none⟩ = false ∧ w'.cell? ⟨b, P * 6 + 1 + 1, none⟩ = some (.int .i64 xa) ∧ w'.frozen? ⟨b, P * 6 + 1 + 1, none⟩ = false ∧ w'.cell? ⟨b, P * 6 + 1 + 2, none⟩ = some (.int .i64 xl) ∧ w'.frozen? ⟨b, P * 6 + 1 + 2, none⟩ = false ∧ w'.cell? ⟨b, P * 6 + 1 + 3, none⟩ = some (.int .i64 xh) ∧ w'.frozen? ⟨b, P * 6 + 1 + 3, none⟩ = false ∧ w'.cell? ⟨b, P * 6 + 1 + 4, none⟩ = some (.string T) ∧ w'.frozen? ⟨b, P * 6 + 1 + 4, none⟩ = false) 8 (by kernel_rfl) (HS.out _ (kD _)) (fun hHeld => ?_)
  refine wpAnyL_take (i := 0) (v := ?_) rfl (by kernel_rfl) (by kernel_rfl) (by kernel_rfl) (by kernel_rfl) (by kernel_rfl) (fun _ _ _ h => h) (Or.inl ⟨by rfl, ?_⟩) (by assumption) ?_
  rotate_left
  · intro wq hSw; (try dsimp only at hSw); first | (go_simp; done) | (go_simp; with_reducible rfl) | with_reducible rfl
  try simp only [Act.put, List.setIfInBounds_toArray, List.set_cons_zero, List.set_cons_succ]
  refine wpAnyL_take (i := 1) (v := ?_) rfl (by kernel_rfl) (by kernel_rfl) (by kernel_rfl) (by kernel_rfl) (by kernel_rfl) (fun _ _ _ h => h) (Or.inl ⟨by rfl, ?_⟩) (by assumption) ?_
  rotate_left
  · intro wq hSw; (try dsimp only at hSw); first | (go_simp; done) | (go_simp; with_reducible rfl) | with_reducible rfl
  try simp only [Act.put, List.setIfInBounds_toArray, List.set_cons_zero, List.set_cons_succ]
  refine wpAnyL_take (i := 2) (v := ?_) rfl (by kernel_rfl) (by kernel_rfl) (by kernel_rfl) (by kernel_rfl) (by kernel_rfl) (fun _ _ _ h => h) (Or.inl ⟨by rfl, ?_⟩) (by assumption) ?_
  rotate_left
  · intro wq hSw; (try dsimp only at hSw); first | (go_simp; done) | (go_simp; with_reducible rfl) | with_reducible rfl
  try simp only [Act.put, List.setIfInBounds_toArray, List.set_cons_zero, List.set_cons_succ]
  refine wpAnyL_take (i := 3) (v := ?_) rfl (by kernel_rfl) (by kernel_rfl) (by kernel_rfl) (by kernel_rfl) (by kernel_rfl) (fun _ _ _ h => h) (Or.inl ⟨by rfl, ?_⟩) (by assumption) ?_
  rotate_left
  · intro wq hSw; (try dsimp only at hSw); first | (go_simp; done) | (go_simp; with_reducible rfl) | with_reducible rfl
  try simp only [Act.put, List.setIfInBounds_toArray, List.set_cons_zero, List.set_cons_succ]
  refine wpAnyL_take (i := 4) (v := ?_) rfl (by kernel_rfl) (by kernel_rfl) (by kernel_rfl) (by kernel_rfl) (by kernel_rfl) (fun _ _ _ h => h) (Or.inl ⟨by rfl, ?_⟩) (by assumption) ?_
  rotate_left
  · intro wq hSw; (try dsimp only at hSw); first | (go_simp; done) | (go_simp; with_reducible rfl) | with_reducible rfl
  try simp only [Act.put, List.setIfInBounds_toArray, List.set_cons_zero, List.set_cons_succ]
  refine wpAnyL_take (i := 5) (v := ?_) rfl (by kernel_rfl) (by kernel_rfl) (by kernel_rfl) (by kernel_rfl) (by kernel_rfl) (fun _ _ _ h => h) (Or.inl ⟨by rfl, ?_⟩) (by assumption) ?_
  rotate_left
  · intro wq hSw; (try dsimp only at hSw); first | (go_simp; done) | (go_simp; with_reducible rfl) | with_reducible rfl
  try simp only [Act.put, List.setIfInBounds_toArray, List.set_cons_zero, List.set_cons_succ]
  refine wpAnyL_take (i := 6) (v := ?_) rfl (by kernel_rfl) (by kernel_rfl) (by kernel_rfl) (by kernel_rfl) (by kernel_rfl) (fun _ _ _ h => h) (Or.inl ⟨by rfl, ?_⟩) (by assumption) ?_
  rotate_left
  · intro wq hSw; (try dsimp only at hSw); first | (go_simp; done) | (go_simp; with_reducible rfl) | with_reducible rfl
  try simp only [Act.put, List.setIfInBounds_toArray, List.set_cons_zero, List.set_cons_succ]
  refine wpAnyL_take (i := 7) (v := ?_) rfl (by kernel_rfl) (by kernel_rfl) (by kernel_rfl) (by kernel_rfl) (by kernel_rfl) (fun _ _ _ h => h) (Or.inl ⟨by rfl, ?_⟩) (by assumption) ?_
  rotate_left
  · intro wq hSw; (try dsimp only at hSw); first | (go_simp; done) | (go_simp; with_reducible rfl) | with_reducible rfl
  try simp only [Act.put, List.setIfInBounds_toArray, List.set_cons_zero, List.set_cons_succ]
  refine wpAnyL_ready (rs := [8]) (by kernel_rfl) (by simp) ?_
  refine AllReadyL.last rfl (fun K hK => ?_)
  go_simp
  refine hK.out _ _ ?_
  clear hK K
  refine wpAnyL_done (by kernel_rfl) ?_ _
  clear hHeld
  go_wp2_with fail
  go_ret
  exact HF.out
end Go.Proofs.Ytgaoplbocjadaaa