/- A maker in memory, and its calls. -/
import Derived.Test.YtiidgcgamcgipaaBz
import Derived.Test.YtiidgcgamcgipaaBTw
import Derived.Test.YtiidgcgamcgipaaBRl
namespace Go.Proofs.Ytiidgcgamcgipaa
open Go.RowKit
set_option linter.unusedSimpArgs false
set_option linter.unusedVariables false

/-- The timers of one key. -/
def RO (nd : Int) : Option Int → List (Int × Int) | none => [] | some x => [(nd, x)]
theorem ro_cut (nd : Int) (o : Option Int) : dcut nd (RO nd o) = RO nd none := by cases o <;> simp [RO, dcut]
theorem ro_put (nd x : Int) (o : Option Int) : dput nd x (RO nd o) = RO nd (some x) := by unfold dput; rw [ro_cut]; rfl
theorem ro_len (nd : Int) (o : Option Int) : (RO nd o).length ≤ 800 := by cases o <;> simp [RO]
theorem ro_has (nd : Int) (o : Option Int) : dhas nd (RO nd o) = o.isSome := by cases o <;> simp [RO, dhas]
theorem ro_get (nd : Int) (o : Option Int) : dgetI nd (RO nd o) = o.getD 0 := by cases o <;> simp [RO, dgetI]
structure MkAt (w0 : World) (q c : Nat) (nd per : Int) (o : Option Int) (wr : World) : Prop where
  is : ∃ L K, TimAt w0 c L K wr ∧ TieT L K (RO nd o)
  box : wr.heap[q]? = some (.cells #[.int .i64 nd, .int .i64 per, .pointer (some ⟨c, 0, none⟩)] 75 (0, 0))
  ge : w0.heap.size ≤ q
section
variable {w0 w w' : World} {q c : Nat} {nd per : Int} {o : Option Int}
theorem MkAt.lt (h : MkAt w0 q c nd per o w) : q < w.heap.size := (Array.getElem?_eq_some_iff.1 h.box).1
theorem MkAt.bel (h : MkAt w0 q c nd per o w) : Below w0.heap.size w0 w := by obtain ⟨L, K, ht, _⟩ := h.is; exact ht.bel
theorem MkAt.cells (h : MkAt w0 q c nd per o w) : w.cell? ⟨q, 0, none⟩ = some (.int .i64 nd) ∧ w.cell? ⟨q, 1, none⟩ = some (.int .i64 per) ∧ w.cell? ⟨q, 2, none⟩ = some (.pointer (some ⟨c, 0, none⟩)) :=
  ⟨by rw [cell_of_row _ _ _ _ _ _ h.box]; rfl, by rw [cell_of_row _ _ _ _ _ _ h.box]; rfl, by rw [cell_of_row _ _ _ _ _ _ h.box]; rfl⟩
theorem MkAt.frozen (h : MkAt w0 q c nd per o w) (i : Nat) : w.frozen? ⟨q, i, none⟩ = false := frozen_of_row _ _ _ _ _ h.box
theorem MkAt.below (h : MkAt w0 q c nd per o w) (hb : Below w.heap.size w w') : MkAt w0 q c nd per o w' := by
  obtain ⟨L, K, ht, h2⟩ := h.is
  exact ⟨⟨L, K, ht.step hb, h2⟩, (hb.block q h.lt).trans h.box, h.ge⟩
theorem MkAt.drew (h : MkAt w0 q c nd per o w) : MkAt w0 q c nd per o w.drew := h.below (kD w)
theorem timAt_kpt {g : Nat} {L T : List (Int × Int)} (h : TimAt w0 g L T w) (hb : Below w0.heap.size w0 w') (h1 : KpT 95 w w') (h2 : KpT 98 w w') (h3 : KpT 103 w w') (h4 : KpT 111 w w') : TimAt w0 g L T w' := by
  obtain ⟨⟨s, v, u, ht, hs⟩, hg, _⟩ := h
  exact ⟨⟨s, v, u, ht.kpt h1 h2 h3 h4, hs⟩, hg, hb⟩
theorem kpt_cell {td t : TypeId} {g i : Nat} {cs : Array Value} {fr : Nat × Nat} (hb : w.heap[g]? = some (.cells cs t fr)) (hne : t ≠ td) (v : Value) : KpT td w (w.setCell ⟨g, i, none⟩ v) :=
  ⟨by simp, fun k cs2 fr2 hk => Below.heap_setCell w ⟨g, i, none⟩ v k (fun e => by have e' : k = g := e; subst e'; rw [hb] at hk; cases hk; exact hne rfl)⟩
theorem MkAt.period (h : MkAt w0 q c nd per o w) (p : Int) : MkAt w0 q c nd p o (w.setCell ⟨q, 1, none⟩ (.int .i64 p)) := by
  obtain ⟨L, K, ht, h2⟩ := h.is
  have hb := h.box
  refine ⟨⟨L, K, timAt_kpt ht (ht.bel.setCell (p := ⟨q, 1, none⟩) h.ge _) (kpt_cell hb (by decide) _) (kpt_cell hb (by decide) _) (kpt_cell hb (by decide) _) (kpt_cell hb (by decide) _), h2⟩, ?_, h.ge⟩
  exact heap_setCell_same w q 1 _ _ _ hb
theorem MkAt.stop (h : MkAt w0 q c nd per o w) : Calls Try.prog 30 #[.pointer (some ⟨c, 0, none⟩), .int .i64 nd] w fun e w' => (∃ b, e = .returned (.bool b)) ∧ MkAt w0 q c nd per none w' ∧ OthT w w' := by
  obtain ⟨L, K, ht, h2⟩ := h.is
  refine (tim_stop nd ht h2 (ro_len nd o)).mono ?_
  rintro e w' ⟨rfl, L2, K2, h3, h4, h5⟩
  rw [ro_cut] at h3
  exact ⟨⟨_, rfl⟩, ⟨⟨L2, K2, h4, h3⟩, ((h5 _ (by decide) (by decide) (by decide) (by decide)).2 _ _ _ h.box).trans h.box, h.ge⟩, h5⟩
theorem MkAt.setx (x : Int) (h : MkAt w0 q c nd per o w) : Calls Try.prog 31 #[.pointer (some ⟨c, 0, none⟩), .int .i64 nd, .int .i64 x] w fun e w' => e = .returned (.tuple #[]) ∧ MkAt w0 q c nd per (some x) w' ∧ OthT w w' := by
  obtain ⟨L, K, ht, h2⟩ := h.is
  refine (tim_set nd x ht h2 (ro_len nd o)).mono ?_
  rintro e w' ⟨rfl, L2, K2, h3, h4, h5⟩
  rw [ro_put] at h3
  exact ⟨rfl, ⟨⟨L2, K2, h4, h3⟩, ((h5 _ (by decide) (by decide) (by decide) (by decide)).2 _ _ _ h.box).trans h.box, h.ge⟩, h5⟩
theorem MkAt.when (h : MkAt w0 q c nd per o w) : Calls Try.prog 33 #[.pointer (some ⟨c, 0, none⟩), .int .i64 nd] w fun e w' => e = .returned (.tuple #[.int .i64 (o.getD 0), .bool o.isSome]) ∧ Below w.heap.size w w' := by
  obtain ⟨L, K, ht, h2⟩ := h.is
  obtain ⟨⟨s, v, u, h1, hs⟩, hg, hb⟩ := ht
  obtain ⟨l1, l2⟩ := h2.len
  have hl := ro_len nd o
  have hw := whenI w _ c s L K v u nd h1 (by omega) h2.tie.rise
  rw [h2.tie.get, h2.tie.has, ro_has, ro_get] at hw
  exact hw
end
theorem mk_no (w : World) (nd : Int) (hn : isNI nd = false) : Calls Try.prog 13 #[.int .i64 nd] w fun e w' => e = .returned (.tuple #[.pointer none, .int .i64 3]) ∧ w = w' := by
  have hN := bnode_any nd
  rw [hn] at hN
  have HN := Lib.hid hN
  clear hN hn
  go_enter Try.func13, Try.ntmps13
  go_wp2_with (go_at_call 24; refine (HN.out _).mono ?_; rintro e w1 ⟨rfl, rfl⟩)
  go_ret2
  exact ⟨rfl, rfl⟩
theorem mk_new (w0 w : World) (nd : Int) (hn : isNI nd = true) (hb : Below w0.heap.size w0 w) : Calls Try.prog 13 #[.int .i64 nd] w fun e w' => ∃ q c, e = .returned (.tuple #[.pointer (some ⟨q, 0, none⟩), .int .i64 0]) ∧ MkAt w0 q c nd 0 none w' ∧ w.heap.size ≤ q ∧ Below w.heap.size w w' := by
  have hN := bnode_any nd
  rw [hn] at hN
  have HN := Lib.hid hN
  have HB := Lib.hid hb
  clear hN hn hb
  go_enter Try.func13, Try.ntmps13
  go_wp2_with (go_at_call 24; refine (HN.out _).mono ?_; rintro e w1 ⟨rfl, rfl⟩)
  refine (tim_new w0 w HB.out).mono ?_
  rintro e w1 ⟨c, rfl, ht, hb1⟩
  have HT := Lib.hid ht
  have HB1 := Lib.hid hb1
  clear ht hb1
  go_wp2_with fail
  go_ret2
  have hba : Below w1.heap.size w1 (w1.alloc (.cells #[.int .i64 nd, .int .i64 0, .pointer (some ⟨c, 0, none⟩)] 75)) := (Below.refl _ _).alloc (Nat.le_refl _) _
  have h1 := HB.out.size
  have h2 := HB1.out.size
  exact ⟨w1.heap.size, c, rfl, ⟨⟨[], [], HT.out.step hba, tieT_nil⟩, heap_alloc_new w1 _, by omega⟩, h2, HB1.out.trans (hba.mono h2)⟩
theorem mset_nil (w : World) (p now : Int) : Calls Try.prog 14 #[.pointer none, .int .i64 p, .int .i64 now] w fun e w' => e = .returned (.int .i64 1) ∧ w = w' := by
  go_enter Try.func14, Try.ntmps14
  go_wp2
  go_ret
  exact ⟨rfl, rfl⟩
theorem mset_bad (w : World) (q : Nat) (p now : Int) (hx : isNu p = false) : Calls Try.prog 14 #[.pointer (some ⟨q, 0, none⟩), .int .i64 p, .int .i64 now] w fun e w' => e = .returned (.int .i64 2) ∧ w = w' := by
  have hX := bnum_any p
  rw [hx] at hX
  have HX := Lib.hid hX
  clear hX hx
  go_enter Try.func14, Try.ntmps14
  go_wp2_with (go_at_call 29; refine (HX.out _).mono ?_; rintro e w1 ⟨rfl, rfl⟩)
  go_ret
  exact ⟨rfl, rfl⟩
/-- All blocks of other types than a maker's five are as they were. -/
def OthM (w w' : World) : Prop := ∀ td, td ≠ 75 → td ≠ 95 → td ≠ 103 → td ≠ 98 → td ≠ 111 → KpT td w w'
theorem OthM.trans {a b c : World} (h : OthM a b) (k : OthM b c) : OthM a c := fun td h0 h1 h2 h3 h4 => kpt_t (h td h0 h1 h2 h3 h4) (k td h0 h1 h2 h3 h4)
theorem othM_below {w w' : World} (h : Below w.heap.size w w') : OthM w w' := fun _ _ _ _ _ _ => kpt_below h
theorem OthT.m {w w' : World} (h : OthT w w') : OthM w w' := fun td _ h1 h2 h3 h4 => h td h1 h2 h3 h4
theorem othM_set {w : World} {q i : Nat} {cs : Array Value} {fr : Nat × Nat} (hb : w.heap[q]? = some (.cells cs 75 fr)) (v : Value) : OthM w (w.setCell ⟨q, i, none⟩ v) := fun td h0 _ _ _ _ => kpt_cell hb (Ne.symm h0) v
theorem OthM.setRow {w w' : World} {g : Nat} (h : OthM w w') (hg : w.heap.size ≤ g) (cs : Array Value) : OthM w (w'.setRow g cs) := fun td h0 h1 h2 h3 h4 =>
  ⟨by simpa using (h td h0 h1 h2 h3 h4).1, fun k cs2 fr2 hk => (setRow_other w' g k cs (by have := (Array.getElem?_eq_some_iff.1 hk).1; omega)).trans ((h td h0 h1 h2 h3 h4).2 k cs2 fr2 hk)⟩
set_option maxRecDepth 100000 in
set_option maxHeartbeats 2000000 in
theorem mset_zero (w0 w : World) (q c : Nat) (nd per p now : Int) (o : Option Int) (h : MkAt w0 q c nd per o w) (hx : isNu p = true) (hy : isNu now = true) (hz : Hid (p = 0)) :
    Calls Try.prog 14 #[.pointer (some ⟨q, 0, none⟩), .int .i64 p, .int .i64 now] w fun e w' => e = .returned (.int .i64 0) ∧ MkAt w0 q c nd p none w' ∧ OthM w w' := by
  have hX := bnum_any p
  have hY := bnum_any now
  obtain ⟨hp0, hp1⟩ := isU_in hx
  obtain ⟨hn0, hn1⟩ := isU_in hy
  rw [hx] at hX
  rw [hy] at hY
  have HX := Lib.hid hX
  have HY := Lib.hid hY
  have HM := Lib.hid (h.period p)
  obtain ⟨c0, c1, c2⟩ := h.cells
  have f1 := h.frozen 1
  have HO0 := Lib.hid (show OthM w (w.setCell ⟨q, 1, none⟩ (.int .i64 p)) from othM_set h.box _)
  clear hX hY hx hy h
  go_enter Try.func14, Try.ntmps14
  go_upto_region 6 with (first | (go_at_call 29; first | (refine (HX.out _).mono ?_; rintro e w1 ⟨rfl, rfl⟩) | (refine (HY.out _).mono ?_; rintro e w1 ⟨rfl, rfl⟩)))
  clear HX HY c0 c1 c2 f1
  generalize w.setCell ⟨q, 1, none⟩ (.int .i64 p) = w1 at *
  refine wp_region_last (fun x => x.cell? ⟨q, 0, none⟩ = some (.int .i64 nd) ∧ x.cell? ⟨q, 2, none⟩ = some (.pointer (some ⟨c, 0, none⟩))) 8 (by kernel_rfl) ⟨HM.out.cells.1, HM.out.cells.2.2⟩ (fun hHeld => ?_)
  have HO1 : Hid (OthM w w1.drew) := Lib.hid (HO0.out.trans (othM_below (kD w1)))
  replace HM := Lib.hid HM.out.drew
  generalize w1.drew = w1 at *
  refine wpAnyL_take (i := 0) (v := ?_) rfl (by kernel_rfl) (by kernel_rfl) (by kernel_rfl) (by kernel_rfl) (by kernel_rfl) (fun _ _ _ h => h) (Or.inl ⟨by rfl, ?_⟩) (by assumption) ?_
  rotate_left
  · intro wq hSw; (try dsimp only at hSw); first | (go_simp; done) | (go_simp; with_reducible rfl) | with_reducible rfl
  try simp only [Act.put, List.setIfInBounds_toArray, List.set_cons_zero, List.set_cons_succ, List.getElem_toArray, List.getElem_cons_zero, List.getElem_cons_succ]
  refine wpAnyL_take (i := 1) (v := ?_) rfl (by kernel_rfl) (by kernel_rfl) (by kernel_rfl) (by kernel_rfl) (by kernel_rfl) (fun _ _ _ h => h) (Or.inl ⟨by rfl, ?_⟩) (by assumption) ?_
  rotate_left
  · intro wq hSw; (try dsimp only at hSw); first | (go_simp; done) | (go_simp; with_reducible rfl) | with_reducible rfl
  try simp only [Act.put, List.setIfInBounds_toArray, List.set_cons_zero, List.set_cons_succ, List.getElem_toArray, List.getElem_cons_zero, List.getElem_cons_succ]
  refine wpAnyL_take (i := 2) (v := ?_) rfl (by kernel_rfl) (by kernel_rfl) (by kernel_rfl) (by kernel_rfl) (by kernel_rfl) (fun _ _ _ h => h) (Or.inl ⟨by rfl, ?_⟩) (by assumption) ?_
  rotate_left
  · intro wq hSw; (try dsimp only at hSw); first | (go_simp; done) | (go_simp; with_reducible rfl) | with_reducible rfl
  try simp only [Act.put, List.setIfInBounds_toArray, List.set_cons_zero, List.set_cons_succ, List.getElem_toArray, List.getElem_cons_zero, List.getElem_cons_succ]
  refine wpAnyL_take (i := 3) (v := .pointer (some ⟨c, 0, none⟩)) rfl (by kernel_rfl) (by kernel_rfl) (by kernel_rfl) (by kernel_rfl) (by kernel_rfl) (fun _ _ _ h => h) (Or.inl ⟨by rfl, ?_⟩) (by assumption) ?_
  · intro wq hSw; (try dsimp only at hSw); first | (go_simp; done) | (go_simp; with_reducible rfl) | with_reducible rfl
  try simp only [Act.put, List.setIfInBounds_toArray, List.set_cons_zero, List.set_cons_succ, List.getElem_toArray, List.getElem_cons_zero, List.getElem_cons_succ]
  refine wpAnyL_take (i := 4) (v := ?_) rfl (by kernel_rfl) (by kernel_rfl) (by kernel_rfl) (by kernel_rfl) (by kernel_rfl) (fun _ _ _ h => h) (Or.inl ⟨by rfl, ?_⟩) (by assumption) ?_
  rotate_left
  · intro wq hSw; (try dsimp only at hSw); first | (go_simp; done) | (go_simp; with_reducible rfl) | with_reducible rfl
  try simp only [Act.put, List.setIfInBounds_toArray, List.set_cons_zero, List.set_cons_succ, List.getElem_toArray, List.getElem_cons_zero, List.getElem_cons_succ]
  refine wpAnyL_take (i := 5) (v := ?_) rfl (by kernel_rfl) (by kernel_rfl) (by kernel_rfl) (by kernel_rfl) (by kernel_rfl) (fun _ _ _ h => h) (Or.inl ⟨by rfl, ?_⟩) (by assumption) ?_
  rotate_left
  · intro wq hSw; (try dsimp only at hSw); first | (go_simp; done) | (go_simp; with_reducible rfl) | with_reducible rfl
  try simp only [Act.put, List.setIfInBounds_toArray, List.set_cons_zero, List.set_cons_succ, List.getElem_toArray, List.getElem_cons_zero, List.getElem_cons_succ]
  refine wpAnyL_take (i := 6) (v := ?_) rfl (by kernel_rfl) (by kernel_rfl) (by kernel_rfl) (by kernel_rfl) (by kernel_rfl) (fun _ _ _ h => h) (Or.inl ⟨by rfl, ?_⟩) (by assumption) ?_
  rotate_left
  · intro wq hSw; (try dsimp only at hSw); first | (go_simp; done) | (go_simp; with_reducible rfl) | with_reducible rfl
  try simp only [Act.put, List.setIfInBounds_toArray, List.set_cons_zero, List.set_cons_succ, List.getElem_toArray, List.getElem_cons_zero, List.getElem_cons_succ]
  refine wpAnyL_take (i := 7) (v := .int .i64 nd) rfl (by kernel_rfl) (by kernel_rfl) (by kernel_rfl) (by kernel_rfl) (by kernel_rfl) (fun _ _ _ h => h) (Or.inl ⟨by rfl, ?_⟩) (by assumption) ?_
  · intro wq hSw; (try dsimp only at hSw); first | (go_simp; done) | (go_simp; with_reducible rfl) | with_reducible rfl
  try simp only [Act.put, List.setIfInBounds_toArray, List.set_cons_zero, List.set_cons_succ, List.getElem_toArray, List.getElem_cons_zero, List.getElem_cons_succ]
  refine wpAnyL_ready (rs := [8]) (by kernel_rfl) (by simp) ?_
  refine AllReadyL.last rfl (fun K hK => ?_)
  go_simp
  go_wp2_with fail
  refine (HM.out.stop).mono ?_
  rintro e w2 ⟨⟨bb, rfl⟩, h2, o2⟩
  have HM2 := Lib.hid h2
  have HO2 := Lib.hid (HO1.out.trans o2.m)
  clear h2 o2 HM HO1 HO0
  refine hK.out _ _ ?_
  clear hK K
  refine wpAnyL_done (by kernel_rfl) ?_ _
  clear hHeld
  go_simp
  have hz := hz.out
  subst hz
  go_wp2_with fail
  go_ret
  exact ⟨rfl, HM2.out, HO2.out⟩
set_option maxRecDepth 100000 in
set_option maxHeartbeats 2000000 in
theorem mset_some (w0 w : World) (q c : Nat) (nd per p now : Int) (o : Option Int) (h : MkAt w0 q c nd per o w) (hx : isNu p = true) (hy : isNu now = true) (hz : 0 < p) :
    Calls Try.prog 14 #[.pointer (some ⟨q, 0, none⟩), .int .i64 p, .int .i64 now] w fun e w' => e = .returned (.int .i64 0) ∧ MkAt w0 q c nd p (some (now + p)) w' ∧ OthM w w' := by
  have hX := bnum_any p
  have hY := bnum_any now
  obtain ⟨hp0, hp1⟩ := isU_in hx
  obtain ⟨hn0, hn1⟩ := isU_in hy
  rw [hx] at hX
  rw [hy] at hY
  have HX := Lib.hid hX
  have HY := Lib.hid hY
  have HM := Lib.hid (h.period p)
  obtain ⟨c0, c1, c2⟩ := h.cells
  have f1 := h.frozen 1
  have HO0 := Lib.hid (show OthM w (w.setCell ⟨q, 1, none⟩ (.int .i64 p)) from othM_set h.box _)
  clear hX hY hx hy h
  go_enter Try.func14, Try.ntmps14
  go_upto_region 6 with (first | (go_at_call 29; first | (refine (HX.out _).mono ?_; rintro e w1 ⟨rfl, rfl⟩) | (refine (HY.out _).mono ?_; rintro e w1 ⟨rfl, rfl⟩)))
  clear HX HY c0 c1 c2 f1
  generalize w.setCell ⟨q, 1, none⟩ (.int .i64 p) = w1 at *
  refine wp_region_last (fun x => x.cell? ⟨q, 0, none⟩ = some (.int .i64 nd) ∧ x.cell? ⟨q, 2, none⟩ = some (.pointer (some ⟨c, 0, none⟩))) 8 (by kernel_rfl) ⟨HM.out.cells.1, HM.out.cells.2.2⟩ (fun hHeld => ?_)
  have HO1 : Hid (OthM w w1.drew) := Lib.hid (HO0.out.trans (othM_below (kD w1)))
  replace HM := Lib.hid HM.out.drew
  generalize w1.drew = w1 at *
  refine wpAnyL_take (i := 0) (v := ?_) rfl (by kernel_rfl) (by kernel_rfl) (by kernel_rfl) (by kernel_rfl) (by kernel_rfl) (fun _ _ _ h => h) (Or.inl ⟨by rfl, ?_⟩) (by assumption) ?_
  rotate_left
  · intro wq hSw; (try dsimp only at hSw); first | (go_simp; done) | (go_simp; with_reducible rfl) | with_reducible rfl
  try simp only [Act.put, List.setIfInBounds_toArray, List.set_cons_zero, List.set_cons_succ, List.getElem_toArray, List.getElem_cons_zero, List.getElem_cons_succ]
  refine wpAnyL_take (i := 1) (v := ?_) rfl (by kernel_rfl) (by kernel_rfl) (by kernel_rfl) (by kernel_rfl) (by kernel_rfl) (fun _ _ _ h => h) (Or.inl ⟨by rfl, ?_⟩) (by assumption) ?_
  rotate_left
  · intro wq hSw; (try dsimp only at hSw); first | (go_simp; done) | (go_simp; with_reducible rfl) | with_reducible rfl
  try simp only [Act.put, List.setIfInBounds_toArray, List.set_cons_zero, List.set_cons_succ, List.getElem_toArray, List.getElem_cons_zero, List.getElem_cons_succ]
  refine wpAnyL_take (i := 2) (v := ?_) rfl (by kernel_rfl) (by kernel_rfl) (by kernel_rfl) (by kernel_rfl) (by kernel_rfl) (fun _ _ _ h => h) (Or.inl ⟨by rfl, ?_⟩) (by assumption) ?_
  rotate_left
  · intro wq hSw; (try dsimp only at hSw); first | (go_simp; done) | (go_simp; with_reducible rfl) | with_reducible rfl
  try simp only [Act.put, List.setIfInBounds_toArray, List.set_cons_zero, List.set_cons_succ, List.getElem_toArray, List.getElem_cons_zero, List.getElem_cons_succ]
  refine wpAnyL_take (i := 3) (v := .pointer (some ⟨c, 0, none⟩)) rfl (by kernel_rfl) (by kernel_rfl) (by kernel_rfl) (by kernel_rfl) (by kernel_rfl) (fun _ _ _ h => h) (Or.inl ⟨by rfl, ?_⟩) (by assumption) ?_
  · intro wq hSw; (try dsimp only at hSw); first | (go_simp; done) | (go_simp; with_reducible rfl) | with_reducible rfl
  try simp only [Act.put, List.setIfInBounds_toArray, List.set_cons_zero, List.set_cons_succ, List.getElem_toArray, List.getElem_cons_zero, List.getElem_cons_succ]
  refine wpAnyL_take (i := 4) (v := ?_) rfl (by kernel_rfl) (by kernel_rfl) (by kernel_rfl) (by kernel_rfl) (by kernel_rfl) (fun _ _ _ h => h) (Or.inl ⟨by rfl, ?_⟩) (by assumption) ?_
  rotate_left
  · intro wq hSw; (try dsimp only at hSw); first | (go_simp; done) | (go_simp; with_reducible rfl) | with_reducible rfl
  try simp only [Act.put, List.setIfInBounds_toArray, List.set_cons_zero, List.set_cons_succ, List.getElem_toArray, List.getElem_cons_zero, List.getElem_cons_succ]
  refine wpAnyL_take (i := 5) (v := ?_) rfl (by kernel_rfl) (by kernel_rfl) (by kernel_rfl) (by kernel_rfl) (by kernel_rfl) (fun _ _ _ h => h) (Or.inl ⟨by rfl, ?_⟩) (by assumption) ?_
  rotate_left
  · intro wq hSw; (try dsimp only at hSw); first | (go_simp; done) | (go_simp; with_reducible rfl) | with_reducible rfl
  try simp only [Act.put, List.setIfInBounds_toArray, List.set_cons_zero, List.set_cons_succ, List.getElem_toArray, List.getElem_cons_zero, List.getElem_cons_succ]
  refine wpAnyL_take (i := 6) (v := ?_) rfl (by kernel_rfl) (by kernel_rfl) (by kernel_rfl) (by kernel_rfl) (by kernel_rfl) (fun _ _ _ h => h) (Or.inl ⟨by rfl, ?_⟩) (by assumption) ?_
  rotate_left
  · intro wq hSw; (try dsimp only at hSw); first | (go_simp; done) | (go_simp; with_reducible rfl) | with_reducible rfl
  try simp only [Act.put, List.setIfInBounds_toArray, List.set_cons_zero, List.set_cons_succ, List.getElem_toArray, List.getElem_cons_zero, List.getElem_cons_succ]
  refine wpAnyL_take (i := 7) (v := .int .i64 nd) rfl (by kernel_rfl) (by kernel_rfl) (by kernel_rfl) (by kernel_rfl) (by kernel_rfl) (fun _ _ _ h => h) (Or.inl ⟨by rfl, ?_⟩) (by assumption) ?_
  · intro wq hSw; (try dsimp only at hSw); first | (go_simp; done) | (go_simp; with_reducible rfl) | with_reducible rfl
  try simp only [Act.put, List.setIfInBounds_toArray, List.set_cons_zero, List.set_cons_succ, List.getElem_toArray, List.getElem_cons_zero, List.getElem_cons_succ]
  refine wpAnyL_ready (rs := [8]) (by kernel_rfl) (by simp) ?_
  refine AllReadyL.last rfl (fun K hK => ?_)
  go_simp
  go_wp2_with fail
  refine (HM.out.stop).mono ?_
  rintro e w2 ⟨⟨bb, rfl⟩, h2, o2⟩
  have HM2 := Lib.hid h2
  have HO2 := Lib.hid (HO1.out.trans o2.m)
  clear h2 o2 HM HO1 HO0
  refine hK.out _ _ ?_
  clear hK K
  refine wpAnyL_done (by kernel_rfl) ?_ _
  clear hHeld
  go_simp
  have wa : IntKind.i64.wrap (now + p) = now + p := IntWalk.i64_in _ (by omega)
  go_upto_region 8 with fail
  refine wp_region_last (fun x => x.cell? ⟨q, 0, none⟩ = some (.int .i64 nd) ∧ x.cell? ⟨q, 2, none⟩ = some (.pointer (some ⟨c, 0, none⟩))) 11 (by kernel_rfl) ⟨HM2.out.cells.1, HM2.out.cells.2.2⟩ (fun hHeld => ?_)
  have HO3 : Hid (OthM w w2.drew) := Lib.hid (HO2.out.trans (othM_below (kD w2)))
  replace HM2 := Lib.hid HM2.out.drew
  generalize w2.drew = w2 at *
  refine wpAnyL_take (i := 0) (v := ?_) rfl (by kernel_rfl) (by kernel_rfl) (by kernel_rfl) (by kernel_rfl) (by kernel_rfl) (fun _ _ _ h => h) (Or.inl ⟨by rfl, ?_⟩) (by assumption) ?_
  rotate_left
  · intro wq hSw; (try dsimp only at hSw); first | (go_simp; done) | (go_simp; with_reducible rfl) | with_reducible rfl
  try simp only [Act.put, List.setIfInBounds_toArray, List.set_cons_zero, List.set_cons_succ, List.getElem_toArray, List.getElem_cons_zero, List.getElem_cons_succ]
  refine wpAnyL_take (i := 1) (v := ?_) rfl (by kernel_rfl) (by kernel_rfl) (by kernel_rfl) (by kernel_rfl) (by kernel_rfl) (fun _ _ _ h => h) (Or.inl ⟨by rfl, ?_⟩) (by assumption) ?_
  rotate_left
  · intro wq hSw; (try dsimp only at hSw); first | (go_simp; done) | (go_simp; with_reducible rfl) | with_reducible rfl
  try simp only [Act.put, List.setIfInBounds_toArray, List.set_cons_zero, List.set_cons_succ, List.getElem_toArray, List.getElem_cons_zero, List.getElem_cons_succ]
  refine wpAnyL_take (i := 2) (v := ?_) rfl (by kernel_rfl) (by kernel_rfl) (by kernel_rfl) (by kernel_rfl) (by kernel_rfl) (fun _ _ _ h => h) (Or.inl ⟨by rfl, ?_⟩) (by assumption) ?_
  rotate_left
  · intro wq hSw; (try dsimp only at hSw); first | (go_simp; done) | (go_simp; with_reducible rfl) | with_reducible rfl
  try simp only [Act.put, List.setIfInBounds_toArray, List.set_cons_zero, List.set_cons_succ, List.getElem_toArray, List.getElem_cons_zero, List.getElem_cons_succ]
  refine wpAnyL_take (i := 3) (v := .pointer (some ⟨c, 0, none⟩)) rfl (by kernel_rfl) (by kernel_rfl) (by kernel_rfl) (by kernel_rfl) (by kernel_rfl) (fun _ _ _ h => h) (Or.inl ⟨by rfl, ?_⟩) (by assumption) ?_
  · intro wq hSw; (try dsimp only at hSw); first | (go_simp; done) | (go_simp; with_reducible rfl) | with_reducible rfl
  try simp only [Act.put, List.setIfInBounds_toArray, List.set_cons_zero, List.set_cons_succ, List.getElem_toArray, List.getElem_cons_zero, List.getElem_cons_succ]
  refine wpAnyL_take (i := 4) (v := ?_) rfl (by kernel_rfl) (by kernel_rfl) (by kernel_rfl) (by kernel_rfl) (by kernel_rfl) (fun _ _ _ h => h) (Or.inl ⟨by rfl, ?_⟩) (by assumption) ?_
  rotate_left
  · intro wq hSw; (try dsimp only at hSw); first | (go_simp; done) | (go_simp; with_reducible rfl) | with_reducible rfl
  try simp only [Act.put, List.setIfInBounds_toArray, List.set_cons_zero, List.set_cons_succ, List.getElem_toArray, List.getElem_cons_zero, List.getElem_cons_succ]
  refine wpAnyL_take (i := 5) (v := ?_) rfl (by kernel_rfl) (by kernel_rfl) (by kernel_rfl) (by kernel_rfl) (by kernel_rfl) (fun _ _ _ h => h) (Or.inl ⟨by rfl, ?_⟩) (by assumption) ?_
  rotate_left
  · intro wq hSw; (try dsimp only at hSw); first | (go_simp; done) | (go_simp; with_reducible rfl) | with_reducible rfl
  try simp only [Act.put, List.setIfInBounds_toArray, List.set_cons_zero, List.set_cons_succ, List.getElem_toArray, List.getElem_cons_zero, List.getElem_cons_succ]
  refine wpAnyL_take (i := 6) (v := ?_) rfl (by kernel_rfl) (by kernel_rfl) (by kernel_rfl) (by kernel_rfl) (by kernel_rfl) (fun _ _ _ h => h) (Or.inl ⟨by rfl, ?_⟩) (by assumption) ?_
  rotate_left
  · intro wq hSw; (try dsimp only at hSw); first | (go_simp; done) | (go_simp; with_reducible rfl) | with_reducible rfl
  try simp only [Act.put, List.setIfInBounds_toArray, List.set_cons_zero, List.set_cons_succ, List.getElem_toArray, List.getElem_cons_zero, List.getElem_cons_succ]
  refine wpAnyL_take (i := 7) (v := .int .i64 nd) rfl (by kernel_rfl) (by kernel_rfl) (by kernel_rfl) (by kernel_rfl) (by kernel_rfl) (fun _ _ _ h => h) (Or.inl ⟨by rfl, ?_⟩) (by assumption) ?_
  · intro wq hSw; (try dsimp only at hSw); first | (go_simp; done) | (go_simp; with_reducible rfl) | with_reducible rfl
  try simp only [Act.put, List.setIfInBounds_toArray, List.set_cons_zero, List.set_cons_succ, List.getElem_toArray, List.getElem_cons_zero, List.getElem_cons_succ]
  refine wpAnyL_take (i := 8) (v := ?_) rfl (by kernel_rfl) (by kernel_rfl) (by kernel_rfl) (by kernel_rfl) (by kernel_rfl) (fun _ _ _ h => h) (Or.inl ⟨by rfl, ?_⟩) (by assumption) ?_
  rotate_left
  · intro wq hSw; (try dsimp only at hSw); first | (go_simp; done) | (go_simp; with_reducible rfl) | with_reducible rfl
  try simp only [Act.put, List.setIfInBounds_toArray, List.set_cons_zero, List.set_cons_succ, List.getElem_toArray, List.getElem_cons_zero, List.getElem_cons_succ]
  refine wpAnyL_take (i := 9) (v := ?_) rfl (by kernel_rfl) (by kernel_rfl) (by kernel_rfl) (by kernel_rfl) (by kernel_rfl) (fun _ _ _ h => h) (Or.inl ⟨by rfl, ?_⟩) (by assumption) ?_
  rotate_left
  · intro wq hSw; (try dsimp only at hSw); first | (go_simp; done) | (go_simp; with_reducible rfl) | with_reducible rfl
  try simp only [Act.put, List.setIfInBounds_toArray, List.set_cons_zero, List.set_cons_succ, List.getElem_toArray, List.getElem_cons_zero, List.getElem_cons_succ]
  refine wpAnyL_take (i := 10) (v := .int .i64 (now + p)) rfl (by kernel_rfl) (by kernel_rfl) (by kernel_rfl) (by kernel_rfl) (by kernel_rfl) (fun _ _ _ h => h) (Or.inl ⟨by rfl, ?_⟩) (by assumption) ?_
  · intro wq hSw; (try dsimp only at hSw); first | (go_simp; done) | (go_simp; with_reducible rfl) | with_reducible rfl
  try simp only [Act.put, List.setIfInBounds_toArray, List.set_cons_zero, List.set_cons_succ, List.getElem_toArray, List.getElem_cons_zero, List.getElem_cons_succ]
  refine wpAnyL_ready (rs := [11]) (by kernel_rfl) (by simp) ?_
  refine AllReadyL.last rfl (fun K hK => ?_)
  go_simp
  go_wp2_with fail
  refine (HM2.out.setx (now + p)).mono ?_
  rintro e w3 ⟨rfl, h3, o3⟩
  have HM4 := Lib.hid h3
  have HO4 := Lib.hid (HO3.out.trans o3.m)
  clear h3 o3 HM2 HO3
  refine hK.out _ _ ?_
  clear hK K
  refine wpAnyL_done (by kernel_rfl) ?_ _
  clear hHeld
  go_simp
  go_wp2_with fail
  go_ret
  exact ⟨rfl, HM4.out, HO4.out⟩
end Go.Proofs.Ytiidgcgamcgipaa
