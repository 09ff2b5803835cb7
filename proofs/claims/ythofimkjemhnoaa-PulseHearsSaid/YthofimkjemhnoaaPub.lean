/- pulse: a maker in memory, its timers' calls. -/
import Derived.Test.YthofimkjemhnoaaPue
import Derived.Test.YthofimkjemhnoaaPua
import Derived.Test.YthofimkjemhnoaaPBRl
import Derived.Deep.CutBlock
namespace Go.Proofs.Ythofimkjemhnoaa
open Go.RowKit
set_option linter.unusedSimpArgs false
set_option linter.unusedVariables false

def isNu (n : Int) : Bool := decide (0 ≤ n ∧ n ≤ 2147483647)
theorem isU_yes {n : Int} (h0 : 0 ≤ n) (h1 : n ≤ 2147483647) : isNu n = true := by simp [isNu, h0, h1]
theorem isU_no {n : Int} (h : n < 0 ∨ 2147483647 < n) : isNu n = false := by unfold isNu; exact decide_eq_false (by omega)
theorem isU_in {n : Int} (h : isNu n = true) : 0 ≤ n ∧ n ≤ 2147483647 := by simpa [isNu] using h
theorem pnum_any (n : Int) (w : World) : Calls Try.prog 28 #[.int .i64 n] w fun e w' => e = .returned (.bool (isNu n)) ∧ w = w' := by
  by_cases h1 : 0 ≤ n
  · by_cases h2 : n ≤ 2147483647
    · rw [isU_yes h1 h2]; go_enter Try.func28, Try.ntmps28; go_wp2; go_ret; exact ⟨rfl, rfl⟩
    · rw [isU_no (n := n) (by omega)]; go_enter Try.func28, Try.ntmps28; go_wp2; go_ret; exact ⟨rfl, rfl⟩
  · rw [isU_no (n := n) (by omega)]; go_enter Try.func28, Try.ntmps28; go_wp2; go_ret; exact ⟨rfl, rfl⟩
def bhE (c o : Int) : Int := if o = 0 then 0 else c % o + 1
theorem beh_zero (c : Int) (w : World) : Calls Try.prog 30 #[.int .i64 c, .int .i64 0] w fun e w' => e = .returned (.int .i64 0) ∧ w = w' := by
  go_enter Try.func30, Try.ntmps30; go_wp2; go_ret; exact ⟨rfl, rfl⟩
theorem beh_some (c o : Int) (w : World) (h0 : 2 ≤ o) (h1 : o ≤ 240) (h2 : 0 ≤ c) : Calls Try.prog 30 #[.int .i64 c, .int .i64 o] w fun e w' => e = .returned (.int .i64 (c % o + 1)) ∧ w = w' := by
  have t0 : (o == 0) = false := by simp; omega
  have tz : ¬ o = 0 := by omega
  have t1 := Int.emod_nonneg c (show o ≠ 0 by omega)
  have t2 := Int.emod_lt_of_pos c (show 0 < o by omega)
  have e1 : c.tmod o = c % o := Int.tmod_eq_emod_of_nonneg h2
  have e2 : IntKind.i64.wrap (c.tmod o) = c % o := by rw [e1]; exact IntWalk.i64_in _ (by omega)
  have e3 : IntKind.i64.wrap (c % o + 1) = c % o + 1 := IntWalk.i64_in _ (by omega)
  clear t1 t2 h2 h1 h0
  generalize c % o = x at *
  go_enter Try.func30, Try.ntmps30; go_wp2; first | (go_ret; exact ⟨rfl, rfl⟩) | (trace_state; sorry)
theorem pbeh_any (c o : Int) (w : World) (ho : isOv o = true) (h2 : 0 ≤ c) : Calls Try.prog 30 #[.int .i64 c, .int .i64 o] w fun e w' => e = .returned (.int .i64 (bhE c o)) ∧ w = w' := by
  rcases ov_in ho with rfl | ⟨h0, h1⟩
  · exact beh_zero c w
  · rw [show bhE c o = c % o + 1 from if_neg (by omega)]
    exact beh_some c o w h0 h1 h2
/-- The timers of one key. -/
def RO (nd : Int) : Option Int → List (Int × Int) | none => [] | some x => [(nd, x)]
theorem ro_cut (nd : Int) (o : Option Int) : dcut nd (RO nd o) = RO nd none := by cases o <;> simp [RO, dcut]
theorem ro_put (nd x : Int) (o : Option Int) : dput nd x (RO nd o) = RO nd (some x) := by unfold dput; rw [ro_cut]; rfl
theorem ro_len (nd : Int) (o : Option Int) : (RO nd o).length ≤ 800 := by cases o <;> simp [RO]
theorem ro_has (nd : Int) (o : Option Int) : dhas nd (RO nd o) = o.isSome := by cases o <;> simp [RO, dhas]
theorem ro_get (nd : Int) (o : Option Int) : dgetI nd (RO nd o) = o.getD 0 := by cases o <;> simp [RO, dgetI]
structure PmAt (w0 : World) (q c : Nat) (per ov ct : Int) (o : Option Int) (wr : World) : Prop where
  is : ∃ L K, TimAt w0 c L K wr ∧ TieT L K (RO 0 o)
  box : wr.heap[q]? = some (.cells #[.pointer (some ⟨c, 0, none⟩), .int .i64 per, .int .i64 ov, .int .i64 ct] 67 (0, 0))
  ge : w0.heap.size ≤ q
/-- All blocks of other types than a maker's five are as they were. -/
def OthP (w w' : World) : Prop := ∀ td, td ≠ 67 → td ≠ 82 → td ≠ 90 → td ≠ 93 → td ≠ 98 → KpT td w w'
theorem OthP.trans {a b c : World} (h : OthP a b) (k : OthP b c) : OthP a c := fun td h0 h1 h2 h3 h4 => kpt_t (h td h0 h1 h2 h3 h4) (k td h0 h1 h2 h3 h4)
theorem othP_below {w w' : World} (h : Below w.heap.size w w') : OthP w w' := fun _ _ _ _ _ _ => kpt_below h
theorem othP_refl (w : World) : OthP w w := othP_below (Below.refl _ _)
theorem OthT.p {w w' : World} (h : OthT w w') : OthP w w' := fun td _ h1 h2 h3 h4 => h td h1 h2 h3 h4
theorem timAt_kpt {w0 w w' : World} {g : Nat} {L T : List (Int × Int)} (h : TimAt w0 g L T w) (hb : Below w0.heap.size w0 w') (h1 : KpT 82 w w') (h2 : KpT 93 w w') (h3 : KpT 90 w w') (h4 : KpT 98 w w') : TimAt w0 g L T w' := by
  obtain ⟨⟨s, v, u, ht, hs⟩, hg, _⟩ := h
  exact ⟨⟨s, v, u, ht.kpt h1 h2 h3 h4, hs⟩, hg, hb⟩
theorem kpt_cell {w : World} {td t : TypeId} {g i : Nat} {cs : Array Value} {fr : Nat × Nat} (hb : w.heap[g]? = some (.cells cs t fr)) (hne : t ≠ td) (v : Value) : KpT td w (w.setCell ⟨g, i, none⟩ v) :=
  ⟨by simp, fun k cs2 fr2 hk => Below.heap_setCell w ⟨g, i, none⟩ v k (fun e => by have e' : k = g := e; subst e'; rw [hb] at hk; cases hk; exact hne rfl)⟩
theorem kpt_setRow {w : World} {td t : TypeId} {g : Nat} {cs : Array Value} {fr : Nat × Nat} (hb : w.heap[g]? = some (.cells cs t fr)) (hne : t ≠ td) (cs' : Array Value) : KpT td w (w.setRow g cs') :=
  ⟨by simp, fun k cs2 fr2 hk => setRow_other w g k cs' (fun e => by subst e; rw [hb] at hk; cases hk; exact hne rfl)⟩
theorem othP_set {w : World} {q i : Nat} {cs : Array Value} {fr : Nat × Nat} (hb : w.heap[q]? = some (.cells cs 67 fr)) (v : Value) : OthP w (w.setCell ⟨q, i, none⟩ v) := fun td h0 _ _ _ _ => kpt_cell hb (Ne.symm h0) v
theorem OthP.setRow {w w' : World} {g : Nat} (h : OthP w w') (hg : w.heap.size ≤ g) (cs : Array Value) : OthP w (w'.setRow g cs) := fun td h0 h1 h2 h3 h4 =>
  ⟨by simpa using (h td h0 h1 h2 h3 h4).1, fun k cs2 fr2 hk => (setRow_other w' g k cs (by have := (Array.getElem?_eq_some_iff.1 hk).1; omega)).trans ((h td h0 h1 h2 h3 h4).2 k cs2 fr2 hk)⟩
theorem FrAt.othp {g : Nat} {w w' : World} {id n : Int} {r : Bool} {d : Nat → Int} (h : FrAt w g id r n d) (ho : OthP w w') : FrAt w' g id r n d := ((ho _ (by decide) (by decide) (by decide) (by decide) (by decide)).2 _ _ _ h).trans h
section
variable {w0 w w' : World} {q c : Nat} {per ov ct : Int} {o : Option Int}
theorem PmAt.lt (h : PmAt w0 q c per ov ct o w) : q < w.heap.size := (Array.getElem?_eq_some_iff.1 h.box).1
theorem PmAt.bel (h : PmAt w0 q c per ov ct o w) : Below w0.heap.size w0 w := by obtain ⟨L, K, ht, _⟩ := h.is; exact ht.bel
theorem PmAt.cells (h : PmAt w0 q c per ov ct o w) : w.cell? ⟨q, 0, none⟩ = some (.pointer (some ⟨c, 0, none⟩)) ∧ w.cell? ⟨q, 1, none⟩ = some (.int .i64 per) ∧ w.cell? ⟨q, 2, none⟩ = some (.int .i64 ov) ∧ w.cell? ⟨q, 3, none⟩ = some (.int .i64 ct) :=
  ⟨by rw [cell_of_row _ _ _ _ _ _ h.box]; rfl, by rw [cell_of_row _ _ _ _ _ _ h.box]; rfl, by rw [cell_of_row _ _ _ _ _ _ h.box]; rfl, by rw [cell_of_row _ _ _ _ _ _ h.box]; rfl⟩
theorem PmAt.frozen (h : PmAt w0 q c per ov ct o w) (i : Nat) : w.frozen? ⟨q, i, none⟩ = false := frozen_of_row _ _ _ _ _ h.box
theorem PmAt.below (h : PmAt w0 q c per ov ct o w) (hb : Below w.heap.size w w') : PmAt w0 q c per ov ct o w' := by
  obtain ⟨L, K, ht, h2⟩ := h.is
  exact ⟨⟨L, K, ht.step hb, h2⟩, (hb.block q h.lt).trans h.box, h.ge⟩
theorem PmAt.drew (h : PmAt w0 q c per ov ct o w) : PmAt w0 q c per ov ct o w.drew := h.below (kD w)
theorem PmAt.kpt (h : PmAt w0 q c per ov ct o w) (hb : Below w0.heap.size w0 w') (h0 : KpT 67 w w') (h1 : KpT 82 w w') (h2 : KpT 93 w w') (h3 : KpT 90 w w') (h4 : KpT 98 w w') : PmAt w0 q c per ov ct o w' := by
  obtain ⟨L, K, ht, h5⟩ := h.is
  exact ⟨⟨L, K, timAt_kpt ht hb h1 h2 h3 h4, h5⟩, (h0.2 _ _ _ h.box).trans h.box, h.ge⟩
theorem PmAt.row (h : PmAt w0 q c per ov ct o w) {g : Nat} {t : TypeId} {cs : Array Value} {fr : Nat × Nat} (hf : w.heap[g]? = some (.cells cs t fr)) (hg : w0.heap.size ≤ g) (h0 : t ≠ 67) (h1 : t ≠ 82) (h2 : t ≠ 93) (h3 : t ≠ 90) (h4 : t ≠ 98) (cs' : Array Value) : PmAt w0 q c per ov ct o (w.setRow g cs') :=
  h.kpt (below_setRow h.bel hg cs') (kpt_setRow hf h0 cs') (kpt_setRow hf h1 cs') (kpt_setRow hf h2 cs') (kpt_setRow hf h3 cs') (kpt_setRow hf h4 cs')
theorem PmAt.frame {g : Nat} {id n : Int} {r : Bool} {d : Nat → Int} (h : PmAt w0 q c per ov ct o w) (hf : FrAt w g id r n d) (hg : w0.heap.size ≤ g) (cs : Array Value) : PmAt w0 q c per ov ct o (w.setRow g cs) :=
  h.row hf hg (by decide) (by decide) (by decide) (by decide) (by decide) cs
theorem PmAt.setc (h : PmAt w0 q c per ov ct o w) (i : Nat) (v : Value) {per' ov' ct' : Int} (he : (#[.pointer (some ⟨c, 0, none⟩), .int .i64 per, .int .i64 ov, .int .i64 ct] : Array Value).setIfInBounds i v = #[.pointer (some ⟨c, 0, none⟩), .int .i64 per', .int .i64 ov', .int .i64 ct']) : PmAt w0 q c per' ov' ct' o (w.setCell ⟨q, i, none⟩ v) := by
  obtain ⟨L, K, ht, h2⟩ := h.is
  have hb := h.box
  refine ⟨⟨L, K, timAt_kpt ht (ht.bel.setCell (p := ⟨q, i, none⟩) h.ge _) (kpt_cell hb (by decide) _) (kpt_cell hb (by decide) _) (kpt_cell hb (by decide) _) (kpt_cell hb (by decide) _), h2⟩, ?_, h.ge⟩
  rw [← he]
  exact heap_setCell_same w q i _ _ _ hb
theorem PmAt.period (h : PmAt w0 q c per ov ct o w) (p : Int) : PmAt w0 q c p ov ct o (w.setCell ⟨q, 1, none⟩ (.int .i64 p)) := h.setc 1 _ rfl
theorem PmAt.over (h : PmAt w0 q c per ov ct o w) (p : Int) : PmAt w0 q c per p ct o (w.setCell ⟨q, 2, none⟩ (.int .i64 p)) := h.setc 2 _ rfl
theorem PmAt.count (h : PmAt w0 q c per ov ct o w) (p : Int) : PmAt w0 q c per ov p o (w.setCell ⟨q, 3, none⟩ (.int .i64 p)) := h.setc 3 _ rfl
theorem PmAt.stop (h : PmAt w0 q c per ov ct o w) : Calls Try.prog 39 #[.pointer (some ⟨c, 0, none⟩), .int .i64 0] w fun e w' => (∃ b, e = .returned (.bool b)) ∧ PmAt w0 q c per ov ct none w' ∧ OthP w w' := by
  obtain ⟨L, K, ht, h2⟩ := h.is
  refine (tim_stop 0 ht h2 (ro_len 0 o)).mono ?_
  rintro e w' ⟨rfl, L2, K2, h3, h4, h5⟩
  rw [ro_cut] at h3
  exact ⟨⟨_, rfl⟩, ⟨⟨L2, K2, h4, h3⟩, ((h5 _ (by decide) (by decide) (by decide) (by decide)).2 _ _ _ h.box).trans h.box, h.ge⟩, h5.p⟩
theorem PmAt.setx (x : Int) (h : PmAt w0 q c per ov ct o w) : Calls Try.prog 40 #[.pointer (some ⟨c, 0, none⟩), .int .i64 0, .int .i64 x] w fun e w' => e = .returned (.tuple #[]) ∧ PmAt w0 q c per ov ct (some x) w' ∧ OthP w w' := by
  obtain ⟨L, K, ht, h2⟩ := h.is
  refine (tim_set 0 x ht h2 (ro_len 0 o)).mono ?_
  rintro e w' ⟨rfl, L2, K2, h3, h4, h5⟩
  rw [ro_put] at h3
  exact ⟨rfl, ⟨⟨L2, K2, h4, h3⟩, ((h5 _ (by decide) (by decide) (by decide) (by decide)).2 _ _ _ h.box).trans h.box, h.ge⟩, h5.p⟩
theorem PmAt.when (h : PmAt w0 q c per ov ct o w) : Calls Try.prog 41 #[.pointer (some ⟨c, 0, none⟩), .int .i64 0] w fun e w' => e = .returned (.tuple #[.int .i64 (o.getD 0), .bool o.isSome]) ∧ Below w.heap.size w w' := by
  obtain ⟨L, K, ht, h2⟩ := h.is
  obtain ⟨⟨s, v, u, h1, hs⟩, hg, hb⟩ := ht
  obtain ⟨l1, l2⟩ := h2.len
  have hl := ro_len 0 o
  have hw := whenI w _ c s L K v u 0 h1 (by omega) h2.tie.rise
  rw [h2.tie.get, h2.tie.has, ro_has, ro_get] at hw
  exact hw
end
def oSet (p now : Int) : Option Int := if 0 < p then some (now + p) else none
theorem pm_new (w0 w : World) (hb : Below w0.heap.size w0 w) : Calls Try.prog 10 #[] w fun e w' => ∃ q c, e = .returned (.pointer (some ⟨q, 0, none⟩)) ∧ PmAt w0 q c 0 0 0 none w' ∧ w.heap.size ≤ q ∧ Below w.heap.size w w' := by
  have HB := Lib.hid hb
  clear hb
  go_enter Try.func10, Try.ntmps10
  go_wp2_with fail
  refine (tim_new w0 w HB.out).mono ?_
  rintro e w1 ⟨c, rfl, ht, hb1⟩
  have HT := Lib.hid ht
  have HB1 := Lib.hid hb1
  clear ht hb1
  go_wp2_with fail
  go_ret
  have hba : Below w1.heap.size w1 (w1.alloc (.cells #[.pointer (some ⟨c, 0, none⟩), .int .i64 0, .int .i64 0, .int .i64 0] 67)) := (Below.refl _ _).alloc (Nat.le_refl _) _
  have h1 := HB.out.size
  have h2 := HB1.out.size
  exact ⟨w1.heap.size, c, rfl, ⟨⟨[], [], HT.out.step hba, tieT_nil⟩, heap_alloc_new w1 _, by omega⟩, h2, HB1.out.trans (hba.mono h2)⟩
set_option maxHeartbeats 2000000 in
theorem pbegin (w0 w : World) (q c : Nat) (per ov ct p now : Int) (o : Option Int) (h : PmAt w0 q c per ov ct o w) (hp0 : 0 ≤ p) (hp1 : p ≤ 2147483647) (hn0 : 0 ≤ now) (hn1 : now ≤ 2147483647) :
    Calls Try.prog 29 #[.pointer (some ⟨q, 0, none⟩), .int .i64 p, .int .i64 now] w fun e w' => e = .returned (.tuple #[]) ∧ PmAt w0 q c p ov ct (oSet p now) w' ∧ OthP w w' := by
  have HM := Lib.hid (h.period p)
  obtain ⟨c0, c1, c2, c3⟩ := h.cells
  have f1 := h.frozen 1
  have HO := Lib.hid (show OthP w (w.setCell ⟨q, 1, none⟩ (.int .i64 p)) from othP_set h.box _)
  have e1 : IntKind.i64.wrap (now + p) = now + p := IntWalk.i64_in _ (by omega)
  clear h hn0 hn1 hp1
  have HS : Hid ((0 < p ∧ oSet p now = some (now + p)) ∨ (¬ 0 < p ∧ oSet p now = none)) := Lib.hid (by
    by_cases hz : 0 < p
    · exact .inl ⟨hz, if_pos hz⟩
    · exact .inr ⟨hz, if_neg hz⟩)
  generalize oSet p now = oo at *
  clear hp0
  go_enter Try.func29, Try.ntmps29
  go_upto_region 2 with (go_at_call 39; refine (HM.out.stop).mono ?_; rintro e w2 ⟨⟨bb, rfl⟩, h2, o2⟩; have HM2 := Lib.hid h2; have HO2 := Lib.hid (HO.out.trans o2); clear h2 o2 HM HO)
  clear c0 c1 c2 c3 f1
  obtain ⟨c0, c1, c2, c3⟩ := HM2.out.cells
  rcases HS.out with ⟨hz, he⟩ | ⟨hz, he⟩
  · clear HS
    have HE := Lib.hid he
    clear he
    go_wp2_with (go_at_call 40; refine (HM2.out.setx (now + p)).mono ?_; rintro e w3 ⟨rfl, h3, o3⟩; have HM3 := Lib.hid h3; have HO3 := Lib.hid (HO2.out.trans o3); clear h3 o3)
    go_end0
    exact ⟨rfl, by rw [HE.out]; exact HM3.out, HO3.out⟩
  · clear HS
    have HE := Lib.hid he
    clear he
    go_wp2_with fail
    go_end0
    exact ⟨rfl, by rw [HE.out]; exact HM2.out, HO2.out⟩
theorem pass_none (w0 w : World) (q c : Nat) (per ov ct now : Int) (h : PmAt w0 q c per ov ct none w) :
    Calls Try.prog 33 #[.pointer (some ⟨q, 0, none⟩), .int .i64 now] w fun e w' => e = .returned (.bool false) ∧ Below w.heap.size w w' := by
  have HM := Lib.hid h
  obtain ⟨c0, c1, c2, c3⟩ := h.cells
  have HW := Lib.hid (show Calls Try.prog 41 #[.pointer (some ⟨c, 0, none⟩), .int .i64 0] w fun e w' => e = .returned (.tuple #[.int .i64 0, .bool false]) ∧ Below w.heap.size w w' from h.when)
  clear h
  go_enter Try.func33, Try.ntmps33
  go_wp2_with (go_at_call 41; refine HW.out.mono ?_; rintro e w2 ⟨rfl, hb2⟩; have HB := Lib.hid hb2; clear hb2)
  go_ret
  exact ⟨rfl, HB.out⟩
theorem pass_wait (w0 w : World) (q c : Nat) (per ov ct now x : Int) (h : PmAt w0 q c per ov ct (some x) w) (ht : now < x) :
    Calls Try.prog 33 #[.pointer (some ⟨q, 0, none⟩), .int .i64 now] w fun e w' => e = .returned (.bool false) ∧ Below w.heap.size w w' := by
  have HM := Lib.hid h
  obtain ⟨c0, c1, c2, c3⟩ := h.cells
  have HW := Lib.hid (show Calls Try.prog 41 #[.pointer (some ⟨c, 0, none⟩), .int .i64 0] w fun e w' => e = .returned (.tuple #[.int .i64 x, .bool true]) ∧ Below w.heap.size w w' from h.when)
  clear h
  go_enter Try.func33, Try.ntmps33
  go_wp2_with (go_at_call 41; refine HW.out.mono ?_; rintro e w2 ⟨rfl, hb2⟩; have HB := Lib.hid hb2; clear hb2)
  go_ret
  exact ⟨rfl, HB.out⟩
set_option maxHeartbeats 2000000 in
theorem pass_last (w0 w : World) (q c : Nat) (per ov ct now x r : Int) (h : PmAt w0 q c per ov ct (some x) w) (ht : x ≤ now) (hev : ∀ w, Calls Try.prog 42 #[.int .i64 x, .int .i64 per, .int .i64 now] w fun e w' => e = .returned (.tuple #[.int .i64 r, .bool false]) ∧ w = w') :
    Calls Try.prog 33 #[.pointer (some ⟨q, 0, none⟩), .int .i64 now] w fun e w' => e = .returned (.bool true) ∧ PmAt w0 q c per ov ct none w' ∧ OthP w w' := by
  have HM := Lib.hid h
  obtain ⟨c0, c1, c2, c3⟩ := h.cells
  have HW := Lib.hid (show Calls Try.prog 41 #[.pointer (some ⟨c, 0, none⟩), .int .i64 0] w fun e w' => e = .returned (.tuple #[.int .i64 x, .bool true]) ∧ Below w.heap.size w w' from h.when)
  have HEV := Lib.hid hev
  have ht1 : ¬ now < x := by omega
  clear h hev ht
  go_enter Try.func33, Try.ntmps33
  go_wp2_with (first
    | (go_at_call 41; refine HW.out.mono ?_; rintro e w2 ⟨rfl, hb2⟩; have HM2 := Lib.hid (HM.out.below hb2); have HO2 := Lib.hid (othP_below hb2); clear hb2 c0 c1 c2 c3; obtain ⟨c0, c1, c2, c3⟩ := HM2.out.cells)
    | (go_at_call 39; refine (HM2.out.stop).mono ?_; rintro e w3 ⟨⟨bb, rfl⟩, h3, o3⟩; have HM3 := Lib.hid h3; have HO3 := Lib.hid (HO2.out.trans o3); clear h3 o3 c0 c1 c2 c3; obtain ⟨c0, c1, c2, c3⟩ := HM3.out.cells)
    | (go_at_call 42; refine (HEV.out _).mono ?_; rintro e w4 ⟨rfl, rfl⟩))
  go_ret
  exact ⟨rfl, HM3.out, HO3.out⟩
set_option maxHeartbeats 2000000 in
theorem pass_next (w0 w : World) (q c : Nat) (per ov ct now x r : Int) (h : PmAt w0 q c per ov ct (some x) w) (ht : x ≤ now) (hev : ∀ w, Calls Try.prog 42 #[.int .i64 x, .int .i64 per, .int .i64 now] w fun e w' => e = .returned (.tuple #[.int .i64 r, .bool true]) ∧ w = w') :
    Calls Try.prog 33 #[.pointer (some ⟨q, 0, none⟩), .int .i64 now] w fun e w' => e = .returned (.bool true) ∧ PmAt w0 q c per ov ct (some r) w' ∧ OthP w w' := by
  have HM := Lib.hid h
  obtain ⟨c0, c1, c2, c3⟩ := h.cells
  have HW := Lib.hid (show Calls Try.prog 41 #[.pointer (some ⟨c, 0, none⟩), .int .i64 0] w fun e w' => e = .returned (.tuple #[.int .i64 x, .bool true]) ∧ Below w.heap.size w w' from h.when)
  have HEV := Lib.hid hev
  have ht1 : ¬ now < x := by omega
  clear h hev ht
  go_enter Try.func33, Try.ntmps33
  go_wp2_with (first
    | (go_at_call 41; refine HW.out.mono ?_; rintro e w2 ⟨rfl, hb2⟩; have HM2 := Lib.hid (HM.out.below hb2); have HO2 := Lib.hid (othP_below hb2); clear hb2 c0 c1 c2 c3; obtain ⟨c0, c1, c2, c3⟩ := HM2.out.cells)
    | (go_at_call 39; refine (HM2.out.stop).mono ?_; rintro e w3 ⟨⟨bb, rfl⟩, h3, o3⟩; have HM3 := Lib.hid h3; have HO3 := Lib.hid (HO2.out.trans o3); clear h3 o3 c0 c1 c2 c3; obtain ⟨c0, c1, c2, c3⟩ := HM3.out.cells)
    | (go_at_call 42; refine (HEV.out _).mono ?_; rintro e w4 ⟨rfl, rfl⟩)
    | (go_at_call 40; refine (HM3.out.setx r).mono ?_; rintro e w5 ⟨rfl, h5, o5⟩; have HM5 := Lib.hid h5; have HO5 := Lib.hid (HO3.out.trans o5); clear h5 o5))
  go_ret
  exact ⟨rfl, HM5.out, HO5.out⟩
def oDue (x p now : Int) : Option Int := if dueE x p now = -1 then none else some (dueE x p now)
def notDue (o : Option Int) (now : Int) : Prop := o = none ∨ ∃ x, o = some x ∧ now < x
theorem pass_not (w0 w : World) (q c : Nat) (per ov ct now : Int) (o : Option Int) (h : PmAt w0 q c per ov ct o w) (hd : notDue o now) :
    Calls Try.prog 33 #[.pointer (some ⟨q, 0, none⟩), .int .i64 now] w fun e w' => e = .returned (.bool false) ∧ Below w.heap.size w w' := by
  rcases hd with rfl | ⟨x, rfl, hx⟩
  · exact pass_none w0 w q c per ov ct now h
  · exact pass_wait w0 w q c per ov ct now x h hx
theorem pass_yes (w0 w : World) (q c : Nat) (per ov ct now x : Int) (h : PmAt w0 q c per ov ct (some x) w) (h0 : 0 ≤ x) (h1 : x ≤ now) (hn1 : now ≤ 2147483647) (hp0 : 1 ≤ per) (hp1 : per ≤ 2147483647) :
    Calls Try.prog 33 #[.pointer (some ⟨q, 0, none⟩), .int .i64 now] w fun e w' => e = .returned (.bool true) ∧ PmAt w0 q c per ov ct (oDue x per now) w' ∧ OthP w w' := by
  have hev := fun w => every_due w x per now h0 h1 hn1 hp0 hp1
  unfold oDue
  by_cases hz : dueE x per now = -1
  · rw [if_pos hz]
    refine pass_last w0 w q c per ov ct now x 0 h h1 (fun w => ?_)
    have := hev w
    rw [hz] at this
    simpa using this
  · rw [if_neg hz]
    refine pass_next w0 w q c per ov ct now x (dueE x per now) h h1 (fun w => ?_)
    have := hev w
    rw [if_neg hz, show decide (dueE x per now = -1) = false from decide_eq_false hz] at this
    exact this
theorem pset_nil (w : World) (p v now : Int) : Calls Try.prog 11 #[.pointer none, .int .i64 p, .int .i64 v, .int .i64 now] w fun e w' => e = .returned (.int .i64 1) ∧ w = w' := by
  go_enter Try.func11, Try.ntmps11
  go_wp2
  go_ret
  exact ⟨rfl, rfl⟩
set_option maxHeartbeats 1000000 in
theorem pset_bad (w : World) (q : Nat) (p v now : Int) (hx : (isNu p && isNu now && isOv v) = false) : Calls Try.prog 11 #[.pointer (some ⟨q, 0, none⟩), .int .i64 p, .int .i64 v, .int .i64 now] w fun e w' => e = .returned (.int .i64 2) ∧ w = w' := by
  have HX := Lib.hid (fun w => pnum_any p w)
  have HY := Lib.hid (fun w => pnum_any now w)
  have HZ := Lib.hid (fun w => pov_any v w)
  generalize isNu p = a at *
  generalize isNu now = b at *
  generalize isOv v = d at *
  cases a
  case false =>
    go_enter Try.func11, Try.ntmps11
    go_wp2_with (go_at_call 28; refine (HX.out _).mono ?_; rintro e w1 ⟨rfl, rfl⟩)
    go_ret; exact ⟨rfl, rfl⟩
  cases b
  case false =>
    go_enter Try.func11, Try.ntmps11
    go_wp2_with (go_at_call 28; first | (with_reducible refine (HX.out _).mono ?_; rintro e w1 ⟨rfl, rfl⟩) | (with_reducible refine (HY.out _).mono ?_; rintro e w1 ⟨rfl, rfl⟩))
    go_ret; exact ⟨rfl, rfl⟩
  cases d
  case false =>
    go_enter Try.func11, Try.ntmps11
    go_wp2_with (first | (go_at_call 28; first | (with_reducible refine (HX.out _).mono ?_; rintro e w1 ⟨rfl, rfl⟩) | (with_reducible refine (HY.out _).mono ?_; rintro e w1 ⟨rfl, rfl⟩)) | (go_at_call 24; refine (HZ.out _).mono ?_; rintro e w1 ⟨rfl, rfl⟩))
    go_ret; exact ⟨rfl, rfl⟩
  simp at hx
set_option maxHeartbeats 2000000 in
theorem pset_ok (w0 w : World) (q c : Nat) (per ov ct p v now : Int) (o : Option Int) (h : PmAt w0 q c per ov ct o w) (hx : isNu p = true) (hy : isNu now = true) (hz : isOv v = true) :
    Calls Try.prog 11 #[.pointer (some ⟨q, 0, none⟩), .int .i64 p, .int .i64 v, .int .i64 now] w fun e w' => e = .returned (.int .i64 0) ∧ PmAt w0 q c p v (bhE 0 v) (oSet p now) w' ∧ OthP w w' := by
  have hX := pnum_any p
  have hY := pnum_any now
  have hZ := pov_any v
  obtain ⟨hp0, hp1⟩ := isU_in hx
  obtain ⟨hn0, hn1⟩ := isU_in hy
  rw [hx] at hX
  rw [hy] at hY
  rw [hz] at hZ
  have HX := Lib.hid hX
  have HY := Lib.hid hY
  have HZ := Lib.hid hZ
  have HM := Lib.hid h
  have HBG := Lib.hid (pbegin w0 w q c per ov ct p now o h hp0 hp1 hn0 hn1)
  have HBH := Lib.hid (fun w => pbeh_any 0 v w hz (Int.le_refl _))
  generalize bhE 0 v = y at *
  generalize oSet p now = oo at *
  clear hX hY hZ hx hy hz hp0 hp1 hn0 hn1 h
  go_enter Try.func11, Try.ntmps11
  go_wp2_with (first
    | (go_at_call 28; first | (with_reducible refine (HX.out _).mono ?_; rintro e w1 ⟨rfl, rfl⟩) | (with_reducible refine (HY.out _).mono ?_; rintro e w1 ⟨rfl, rfl⟩))
    | (go_at_call 24; refine (HZ.out _).mono ?_; rintro e w1 ⟨rfl, rfl⟩)
    | (go_at_call 29; refine HBG.out.mono ?_; rintro e w2 ⟨rfl, h2, o2⟩; have HM2 := Lib.hid h2; have HO2 := Lib.hid o2; have HM3 := Lib.hid ((h2.over v).count y); have HO3 := Lib.hid ((o2.trans (othP_set (i := 2) h2.box (.int .i64 v))).trans (othP_set (i := 3) (h2.over v).box (.int .i64 y))); obtain ⟨c0, c1, c2, c3⟩ := h2.cells; have f2 := h2.frozen 2; have f3 := h2.frozen 3; clear h2 o2)
    | (go_at_call 30; refine (HBH.out _).mono ?_; rintro e w4 ⟨rfl, rfl⟩))
  all_goals first | (go_ret; exact ⟨rfl, HM3.out, HO3.out⟩) | (trace_state; sorry)
end Go.Proofs.Ythofimkjemhnoaa
