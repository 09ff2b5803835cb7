/- An entry gets bytes: the document's hold. -/
import Derived.Test.YtchmildlkaikmaaADx
import Derived.Laws.OwnMore
import Derived.Laws.AppendOwnNone
import Derived.Deep.CutBlock
namespace Go.Proofs.Ytchmildlkaikmaa
open Go.RowKit
set_option linter.unusedSimpArgs false
set_option linter.unusedVariables false
theorem info_elR : (Try.prog.info? 39).map (fun i => (i.zero, i.size, i.bytes)) = some (some (.agg #[.int .i64 0, .int .i64 0, .int .i64 0, .int .i64 0, .int .i64 0, .int .i64 0, .string ByteArray.empty]), 7, 64) := by kernel_rfl
theorem info_dct : (Try.prog.info? 32).map (·.size) = some 2 := by kernel_rfl
theorem fr_set : ∀ (R : List (Int × Ent)) (p : Nat) (x : Int × Ent) (l : List Int), R[p]? = some x → (fr R).set (p * 7 + 6) (.string (strOfNums l)) = fr (R.set p (x.1, ⟨x.2.k, x.2.a, x.2.lo, x.2.hi, l⟩))
  | [], p, x, l, h => by simp at h
  | y :: R, 0, x, l, h => by
    simp only [List.getElem?_cons_zero, Option.some.injEq] at h
    subst h
    rfl
  | y :: R, p + 1, x, l, h => by
    simp only [List.getElem?_cons_succ] at h
    rw [fr_cons, List.set_append_right _ _ (by rw [rowR_len]; omega), show (p + 1) * 7 + 6 - (rowR y).length = p * 7 + 6 by rw [rowR_len]; omega, fr_set R p x l h, List.set_cons_succ, fr_cons]
theorem RBox.two {w : World} {g : Nat} {a a' : Option Addr} {n n' c c' : Nat} {ch ch' : Int} (h : RBox w g a n c ch) : RBox ((w.setCell ⟨g, 0, none⟩ (.slice a' n' c')).setCell ⟨g, 1, none⟩ (.int .i64 ch')) g a' n' c' ch' := by
  have h' : w.heap[g]? = _ := h
  simp [RBox, World.setCell, Array.getElem?_modify, h']
theorem RBox.sl {w : World} {g : Nat} {a a' : Option Addr} {n n' c c' : Nat} {ch : Int} (h : RBox w g a n c ch) : RBox (w.setCell ⟨g, 0, none⟩ (.slice a' n' c')) g a' n' c' ch := by
  have h' : w.heap[g]? = _ := h
  simp [RBox, World.setCell, Array.getElem?_modify, h']
theorem RBox.cg {w : World} {g : Nat} {a : Option Addr} {n c : Nat} {ch ch' : Int} (h : RBox w g a n c ch) : RBox (w.setCell ⟨g, 1, none⟩ (.int .i64 ch')) g a n c ch' := by
  have h' : w.heap[g]? = _ := h
  simp [RBox, World.setCell, Array.getElem?_modify, h']
theorem RBox.off {w : World} {g : Nat} {a : Option Addr} {n c : Nat} {ch : Int} (h : RBox w g a n c ch) (x : Addr) (u : Value) (hx : ¬ g = x.block) : RBox (w.setCell x u) g a n c ch := (Below.heap_setCell w x u g hx).trans h
def HoldP (w : World) (R : List (Int × Ent)) (ch : Int) (e : Ending) (w' : World) : Prop := ∃ a c, e = .returned (.agg #[.slice a R.length c, .int .i64 ch]) ∧ w'.ownsRow w.heap.size 39 7 (.slice a R.length c) R.length (fr R) ∧ Below w.heap.size w w'
set_option maxRecDepth 100000 in
set_option maxHeartbeats 4000000 in
theorem hold_any (w : World) (base n c p : Nat) (a : Option Addr) (R : List (Int × Ent)) (ch : Int) (x : Int × Ent) (B : Option Addr) (m k : Nat) (l : List Int) (h : w.ownsRow base 39 7 (.slice a n c) n (fr R)) (hnl : n = R.length) (hn : R.length ≤ 1000) (hx : R[p]? = some x) (hc : 0 ≤ ch ∧ ch ≤ 1000000) (hB : Byt w w.heap.size B m k l) (hr : ∀ y ∈ x.2.b, 0 ≤ y ∧ y ≤ 255) :
    Calls Try.prog 81 #[.agg #[.slice a n c, .int .i64 ch], .int .i64 (p : Nat), .slice B m k] w (HoldP w (R.set p (x.1, ⟨x.2.k, x.2.a, x.2.lo, x.2.hi, l⟩)) (givC ch x.2 l)) := by
  have hpl : p < n := by rw [hnl]; exact (List.getElem?_eq_some_iff.1 hx).1
  have hb0 : Below w.heap.size w ((w.alloc (.cells #[.slice a n c, .int .i64 ch] 32)).alloc (.cells #[.slice none 0 0, .int .i64 0] 32)) := ((Below.refl _ _).alloc (Nat.le_refl _) _).alloc (by simp) _
  have hr0 : RBox ((w.alloc (.cells #[.slice a n c, .int .i64 ch] 32)).alloc (.cells #[.slice none 0 0, .int .i64 0] 32)) w.heap.size a n c ch := heap_alloc2_old w _ _
  have hz0 : RBox ((w.alloc (.cells #[.slice a n c, .int .i64 ch] 32)).alloc (.cells #[.slice none 0 0, .int .i64 0] 32)) (w.heap.size + 1) none 0 0 0 := heap_alloc2_new w _ _
  have hsz0 : ((w.alloc (.cells #[.slice a n c, .int .i64 ch] 32)).alloc (.cells #[.slice none 0 0, .int .i64 0] 32)).heap.size = w.heap.size + 2 := by simp
  obtain ⟨gs, cs, cur, e1, _, hgs, hns, hms, _⟩ := own_some h (by omega)
  cases e1
  have hlt : gs < w.heap.size := (Array.getElem?_eq_some_iff.1 hgs).1
  have hb1 : Below ((w.alloc (.cells #[.slice (some ⟨gs, 0, none⟩) n c, .int .i64 ch] 32)).alloc (.cells #[.slice none 0 0, .int .i64 0] 32)).heap.size ((w.alloc (.cells #[.slice (some ⟨gs, 0, none⟩) n c, .int .i64 ch] 32)).alloc (.cells #[.slice none 0 0, .int .i64 0] 32)) (((w.alloc (.cells #[.slice (some ⟨gs, 0, none⟩) n c, .int .i64 ch] 32)).alloc (.cells #[.slice none 0 0, .int .i64 0] 32)).alloc (.cells #[] 39)) := (Below.refl _ _).alloc (Nat.le_refl _) _
  have hfl := fr_len R
  have hsrc : Hid (∀ j u, (fr R)[j]? = some u → (((w.alloc (.cells #[.slice (some ⟨gs, 0, none⟩) n c, .int .i64 ch] 32)).alloc (.cells #[.slice none 0 0, .int .i64 0] 32)).alloc (.cells #[] 39)).cell? ((⟨gs, 0, none⟩ : Addr).add j) = some u) := Lib.hid fun j u hu => by
    rw [add_plainR, Nat.zero_add, (kF hb1 hb0).cell (p := ⟨gs, j, none⟩) hlt, own_cell h (by have := (List.getElem?_eq_some_iff.1 hu).1; omega), hu]
  obtain ⟨i0, hi, hz0', hz1', hz2'⟩ := info_parts info_elR
  have HO := Lib.hid (show (((w.alloc (.cells #[.slice (some ⟨gs, 0, none⟩) n c, .int .i64 ch] 32)).alloc (.cells #[.slice none 0 0, .int .i64 0] 32)).alloc (.cells #[] 39)).ownsRow (w.heap.size + 2) 39 7 (.slice (some ⟨((w.alloc (.cells #[.slice (some ⟨gs, 0, none⟩) n c, .int .i64 ch] 32)).alloc (.cells #[.slice none 0 0, .int .i64 0] 32)).heap.size, 0, none⟩) 0 0) 0 [] from own_made ((w.alloc (.cells #[.slice (some ⟨gs, 0, none⟩) n c, .int .i64 ch] 32)).alloc (.cells #[.slice none 0 0, .int .i64 0] 32)) (w.heap.size + 2) 39 7 (Nat.le_of_eq hsz0.symm))
  have HSZ := Lib.hid hsz0
  have HSZ1 := Lib.hid (show w.heap.size + 2 ≤ (((w.alloc (.cells #[.slice (some ⟨gs, 0, none⟩) n c, .int .i64 ch] 32)).alloc (.cells #[.slice none 0 0, .int .i64 0] 32)).alloc (.cells #[] 39)).heap.size by simp)
  clear hsz0
  have HB0 := Lib.hid hb0
  have HBZ := Lib.hid hb1
  have HI := Lib.hid hi
  have HL := Lib.hid (show (fr R).length = n * 7 by rw [fr_len, hnl])
  have HX := Lib.hid (fr_one R)
  have HR0 := Lib.hid hr0
  have HZ0 := Lib.hid hz0
  have HCV := Lib.hid (fun y (hy : Below w.heap.size w y) => conv_any (hB.step hy))
  have HFIN := Lib.hid (fun (w' : World) (g' c' : Nat) (C : Int) (hC : givC ch x.2 l = C) (ho : w'.ownsRow (w.heap.size + 2) 39 7 (.slice (some ⟨g', 0, none⟩) n c') n (fr (R.set p (x.1, ⟨x.2.k, x.2.a, x.2.lo, x.2.hi, l⟩)))) (hb : Below w.heap.size w w') =>
    show HoldP w (R.set p (x.1, ⟨x.2.k, x.2.a, x.2.lo, x.2.hi, l⟩)) (givC ch x.2 l) (.returned (.agg #[.slice (some ⟨g', 0, none⟩) n c', .int .i64 C])) w' from
      ⟨some ⟨g', 0, none⟩, c', by rw [hC, List.length_set, hnl], by rw [List.length_set, ← hnl]; exact own_less ho (by omega), hb⟩)
  have he := str_eq hr hB.rng
  have hzn : R.length ≤ 1000 := hn
  rw [← hnl] at hzn
  simp only [maxLen] at hms
  clear h hB hr hgs hfl hb0 hr0 hz0 hi hnl hn
  have hr1 := HR0.out.below HBZ.out
  obtain ⟨d0, d1⟩ := hr1.cells
  go_enter Try.func81, Try.ntmps81
  go_upto_region 1 with fail
  generalize ((w.alloc (.cells #[.slice (some ⟨gs, 0, none⟩) n c, .int .i64 ch] 32)).alloc (.cells #[.slice none 0 0, .int .i64 0] 32)) = w0 at *
  generalize hRS : R.set p (x.1, ⟨x.2.k, x.2.a, x.2.lo, x.2.hi, l⟩) = RS at *
  go_wp2_with (at_builtin; refine wpList_append_own _ rfl (.tmp 8) (.tmp 10) 30 rfl (w.heap.size + 2) 39 i0 (.agg #[.int .i64 0, .int .i64 0, .int .i64 0, .int .i64 0, .int .i64 0, .int .i64 0, .string ByteArray.empty]) 7 64 Try.underlying30 HI.out hz0' hz1' hz2' rfl (by omega) _ 0 [] rfl HO.out ⟨gs, 0, none⟩ n c (fr R) rfl HL.out hsrc.out HX.out (by simp [maxLen]; omega) (by omega) HSZ1.out ?_; intro v' w' r1 r2 _)
  rw [Nat.zero_add, List.nil_append] at r1
  obtain ⟨gr, cap', cur', rfl, hgr, hgr', hcn, hcm, -⟩ := own_some r1 (by omega)
  simp only [maxLen] at hcm
  have hgl : gr < w'.heap.size := (Array.getElem?_eq_some_iff.1 hgr').1
  have hbw : Below w0.heap.size w0 w' := HBZ.out.grown r2 HBZ.out.size (fun k e => by cases e; exact Nat.le_refl _)
  have HO2 := Lib.hid r1
  have HR2 := Lib.hid (HR0.out.below hbw)
  have HZ2 := Lib.hid (HZ0.out.below hbw)
  have HB2 := Lib.hid (kF hbw HB0.out)
  obtain ⟨-, -, -, -, -, -, k6⟩ := cellsR r1 hx
  have hcv : ∀ kk, (convert 40 9 (.slice B m k)).run Try.prog (w'.drewN kk) = .ok (.string (strOfNums l)) (w'.drewN kk) := fun kk => HCV.out _ (below_drewN HB2.out kk)
  have hpI : (p : Int) < (n : Int) := by omega
  clear r1 r2 hgr' hbw hr1 d0 d1 HO HBZ hsrc HI HX HL hz0' hz1' hz2' HR0 HZ0 HB0
  subst hRS
  by_cases hl : l = x.2.b
  · have he2 : ((strOfNums x.2.b).toList == (strOfNums l).toList) = true := by rw [he]; exact decide_eq_true hl.symm
    have CH0 := Lib.hid (show givC ch x.2 l = ch from if_pos hl)
    clear he hl
    obtain ⟨d0, d1⟩ := HR2.out.cells
    go_quiet (fail)
    clear k6 hcv d0 d1
    have HO5 := Lib.hid (own_keep HO2.out (below_drewN (Below.refl _ _) nq))
    have HR5' := Lib.hid (HR2.out.below (below_drewN (Below.refl _ _) nq))
    have HZ5 := Lib.hid (HZ2.out.below (below_drewN (Below.refl _ _) nq))
    have HB5 := Lib.hid (below_drewN HB2.out nq)
    clear HO2 HR2 HZ2 HB2
    generalize w'.drewN nq = w5 at *
    go_upto_region 4 with fail
    have HR5 : Hid (RBox w5 w.heap.size (some ⟨gs, 0, none⟩) n c ch) := HR5'
    obtain ⟨d0, d1⟩ := HR5.out.cells
    obtain ⟨-, -, -, -, -, -, k6⟩ := cellsR HO5.out hx
    have fk6 := HO5.out.frozenAt (p * 7 + 6)
    have hcv5 := HCV.out w5 HB5.out
    go_upto_region 5 with fail
    have h6 := HO5.out.stored (p * 7 + 6) (.string (strOfNums l))
    rw [fr_set R p x l hx] at h6
    have HO6 := Lib.hid h6.1
    have HR6 := Lib.hid (HR5.out.off ⟨gr, p * 7 + 6, none⟩ (.string (strOfNums l)) (by show ¬ w.heap.size = gr; omega))
    have HZ6 := Lib.hid (HZ5.out.off ⟨gr, p * 7 + 6, none⟩ (.string (strOfNums l)) (by show ¬ w.heap.size + 1 = gr; omega))
    have HB6 := Lib.hid (HB5.out.setCell (p := ⟨gr, p * 7 + 6, none⟩) (by show w.heap.size ≤ gr; omega) (.string (strOfNums l)))
    clear h6 k6 fk6 hcv5 d0 d1 HR5 HZ5 HB5 HO5
    generalize w5.setCell ⟨gr, p * 7 + 6, none⟩ (.string (strOfNums l)) = w6 at *
    obtain ⟨d0, d1⟩ := HR6.out.cells
    have fb0 : w6.frozen? ⟨w.heap.size, 0, none⟩ = false := frozen_of_row _ _ _ _ _ HR6.out
    go_upto_region 6 with fail
    have HR7 := Lib.hid (HR6.out.sl (a' := some ⟨gr, 0, none⟩) (n' := n) (c' := cap'))
    have HZ7 := Lib.hid (HZ6.out.off ⟨w.heap.size, 0, none⟩ (.slice (some ⟨gr, 0, none⟩) n cap') (by show ¬ w.heap.size + 1 = w.heap.size; omega))
    have HB7 := Lib.hid (HB6.out.setCell (p := ⟨w.heap.size, 0, none⟩) (Nat.le_refl _) (.slice (some ⟨gr, 0, none⟩) n cap'))
    have HO7 := Lib.hid (ownsRow_setCell_other HO6.out (a := ⟨w.heap.size, 0, none⟩) (fun e => by simp [Value.ownBlock] at e; omega) (.slice (some ⟨gr, 0, none⟩) n cap'))
    clear HR6 HZ6 HB6 HO6 d0 d1 fb0
    generalize w6.setCell ⟨w.heap.size, 0, none⟩ (.slice (some ⟨gr, 0, none⟩) n cap') = w7 at *
    obtain ⟨d0, d1⟩ := HR7.out.cells
    obtain ⟨z0, z1⟩ := HZ7.out.cells
    have fz0 : w7.frozen? ⟨w.heap.size + 1, 0, none⟩ = false := frozen_of_row _ _ _ _ _ HZ7.out
    have fz1 : w7.frozen? ⟨w.heap.size + 1, 1, none⟩ = false := frozen_of_row _ _ _ _ _ HZ7.out
    go_wp2_with fail
    exact bodyPost_ret (results_cell_row rfl _ _ (w.heap.size + 1) _ _ _ _ rfl HZ7.out.two Try.underlying32 rfl info_dct) rfl (HFIN.out _ gr cap' ch CH0.out (ownsRow_setCell_other (ownsRow_setCell_other HO7.out (a := ⟨w.heap.size + 1, 0, none⟩) (fun e => by simp [Value.ownBlock] at e; omega) _) (a := ⟨w.heap.size + 1, 1, none⟩) (fun e => by simp [Value.ownBlock] at e; omega) _) ((HB7.out.setCell (p := ⟨w.heap.size + 1, 0, none⟩) (by show w.heap.size ≤ w.heap.size + 1; omega) _).setCell (p := ⟨w.heap.size + 1, 1, none⟩) (by show w.heap.size ≤ w.heap.size + 1; omega) _))
  · have he2 : ((strOfNums x.2.b).toList == (strOfNums l).toList) = false := by rw [he]; exact decide_eq_false (fun e => hl e.symm)
    have CH0 := Lib.hid (show givC ch x.2 l = ch + 1 from if_neg hl)
    clear he hl
    obtain ⟨d0, d1⟩ := HR2.out.cells
    go_quiet (fail)
    clear k6 hcv d0 d1
    have HO4 := Lib.hid (own_keep HO2.out (below_drewN (Below.refl _ _) nq))
    have HR4 := Lib.hid (HR2.out.below (below_drewN (Below.refl _ _) nq))
    have HZ4 := Lib.hid (HZ2.out.below (below_drewN (Below.refl _ _) nq))
    have HB4 := Lib.hid (below_drewN HB2.out nq)
    clear HO2 HR2 HZ2 HB2
    generalize w'.drewN nq = w4 at *
    obtain ⟨d0, d1⟩ := HR4.out.cells
    have fb1 : w4.frozen? ⟨w.heap.size, 1, none⟩ = false := frozen_of_row _ _ _ _ _ HR4.out
    go_upto_region 4 with fail
    have HR5' := Lib.hid (HR4.out.cg (ch' := ch + 1))
    have HZ5 := Lib.hid (HZ4.out.off ⟨w.heap.size, 1, none⟩ (.int .i64 (ch + 1)) (by show ¬ w.heap.size + 1 = w.heap.size; omega))
    have HB5 := Lib.hid (HB4.out.setCell (p := ⟨w.heap.size, 1, none⟩) (Nat.le_refl _) (.int .i64 (ch + 1)))
    have HO5 := Lib.hid (ownsRow_setCell_other HO4.out (a := ⟨w.heap.size, 1, none⟩) (fun e => by simp [Value.ownBlock] at e; omega) (.int .i64 (ch + 1)))
    clear HR4 HZ4 HB4 HO4 d0 d1 fb1
    generalize w4.setCell ⟨w.heap.size, 1, none⟩ (.int .i64 (ch + 1)) = w5 at *
    have HR5 : Hid (RBox w5 w.heap.size (some ⟨gs, 0, none⟩) n c (ch + 1)) := HR5'
    obtain ⟨d0, d1⟩ := HR5.out.cells
    obtain ⟨-, -, -, -, -, -, k6⟩ := cellsR HO5.out hx
    have fk6 := HO5.out.frozenAt (p * 7 + 6)
    have hcv5 := HCV.out w5 HB5.out
    go_upto_region 5 with fail
    have h6 := HO5.out.stored (p * 7 + 6) (.string (strOfNums l))
    rw [fr_set R p x l hx] at h6
    have HO6 := Lib.hid h6.1
    have HR6 := Lib.hid (HR5.out.off ⟨gr, p * 7 + 6, none⟩ (.string (strOfNums l)) (by show ¬ w.heap.size = gr; omega))
    have HZ6 := Lib.hid (HZ5.out.off ⟨gr, p * 7 + 6, none⟩ (.string (strOfNums l)) (by show ¬ w.heap.size + 1 = gr; omega))
    have HB6 := Lib.hid (HB5.out.setCell (p := ⟨gr, p * 7 + 6, none⟩) (by show w.heap.size ≤ gr; omega) (.string (strOfNums l)))
    clear h6 k6 fk6 hcv5 d0 d1 HR5 HZ5 HB5 HO5
    generalize w5.setCell ⟨gr, p * 7 + 6, none⟩ (.string (strOfNums l)) = w6 at *
    obtain ⟨d0, d1⟩ := HR6.out.cells
    have fb0 : w6.frozen? ⟨w.heap.size, 0, none⟩ = false := frozen_of_row _ _ _ _ _ HR6.out
    go_upto_region 6 with fail
    have HR7 := Lib.hid (HR6.out.sl (a' := some ⟨gr, 0, none⟩) (n' := n) (c' := cap'))
    have HZ7 := Lib.hid (HZ6.out.off ⟨w.heap.size, 0, none⟩ (.slice (some ⟨gr, 0, none⟩) n cap') (by show ¬ w.heap.size + 1 = w.heap.size; omega))
    have HB7 := Lib.hid (HB6.out.setCell (p := ⟨w.heap.size, 0, none⟩) (Nat.le_refl _) (.slice (some ⟨gr, 0, none⟩) n cap'))
    have HO7 := Lib.hid (ownsRow_setCell_other HO6.out (a := ⟨w.heap.size, 0, none⟩) (fun e => by simp [Value.ownBlock] at e; omega) (.slice (some ⟨gr, 0, none⟩) n cap'))
    clear HR6 HZ6 HB6 HO6 d0 d1 fb0
    generalize w6.setCell ⟨w.heap.size, 0, none⟩ (.slice (some ⟨gr, 0, none⟩) n cap') = w7 at *
    obtain ⟨d0, d1⟩ := HR7.out.cells
    obtain ⟨z0, z1⟩ := HZ7.out.cells
    have fz0 : w7.frozen? ⟨w.heap.size + 1, 0, none⟩ = false := frozen_of_row _ _ _ _ _ HZ7.out
    have fz1 : w7.frozen? ⟨w.heap.size + 1, 1, none⟩ = false := frozen_of_row _ _ _ _ _ HZ7.out
    go_wp2_with fail
    exact bodyPost_ret (results_cell_row rfl _ _ (w.heap.size + 1) _ _ _ _ rfl HZ7.out.two Try.underlying32 rfl info_dct) rfl (HFIN.out _ gr cap' (ch + 1) CH0.out (ownsRow_setCell_other (ownsRow_setCell_other HO7.out (a := ⟨w.heap.size + 1, 0, none⟩) (fun e => by simp [Value.ownBlock] at e; omega) _) (a := ⟨w.heap.size + 1, 1, none⟩) (fun e => by simp [Value.ownBlock] at e; omega) _) ((HB7.out.setCell (p := ⟨w.heap.size + 1, 0, none⟩) (by show w.heap.size ≤ w.heap.size + 1; omega) _).setCell (p := ⟨w.heap.size + 1, 1, none⟩) (by show w.heap.size ≤ w.heap.size + 1; omega) _))
end Go.Proofs.Ytchmildlkaikmaa