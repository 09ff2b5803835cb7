/- Timers as they lie; New, Len, When, place, Stop, Set. -/
import Derived.Test.YthofimkjemhnoaaPBTn
import Derived.Test.YthofimkjemhnoaaPBTaDel
namespace Go.Proofs.Ythofimkjemhnoaa
open Go.RowKit
set_option linter.unusedSimpArgs false
set_option linter.unusedVariables false
theorem kA {a w : World} (h : Below a.heap.size a w) (o : Obj) : Below a.heap.size a (w.alloc o) := h.alloc h.size o
theorem kE {B : Nat} {a w : World} (h : Below B a w) : Below B a w.drew := ⟨h.os, h.tape, h.output, h.size, h.block⟩
theorem own_below {w w' : World} {base e s n : Nat} {v : Value} {xs : List Value} (h : w.ownsRow base e s v n xs) (hb : Below w.heap.size w w') : w'.ownsRow base e s v n xs :=
  h.kept (grown_below none hb) (by cases hv : v.ownBlock with | none => exact .inl rfl | some k => exact .inr (by simp))
theorem own_ne {X : World} {base e s n g : Nat} {v : Value} {xs : List Value} {cs : Array Value} {t : TypeId} {fr : Nat × Nat} (h : X.ownsRow base e s v n xs) (hg : X.heap[g]? = some (.cells cs t fr)) (hte : e ≠ t) : v.ownBlock ≠ some g := fun eq => by
  rcases h.2 with ⟨rfl, h0⟩ | ⟨b, cap, cur, rfl, hb, hgg, rest⟩
  · cases eq
  · cases eq; rw [hg] at hgg; cases hgg; exact hte rfl
theorem own_ty {w : World} {base e s n : Nat} {v : Value} {xs : List Value} (h : w.ownsRow base e s v n xs) {b : Nat} (hb : v.ownBlock = some b) : ∃ cs, w.heap[b]? = some (.cells cs e (0, 0)) := by
  rcases h.2 with ⟨rfl, h0⟩ | ⟨b', cap, cur, rfl, _, hgg, rest⟩
  · cases hb
  · cases hb; exact ⟨_, hgg⟩
/-- The row is its own, or that of before. -/
def Nx (w : World) (v v' : Value) : Prop := v'.ownBlock = v.ownBlock ∨ ∃ b, v'.ownBlock = some b ∧ w.heap.size ≤ b
theorem Nx.rfl' (w : World) (v : Value) : Nx w v v := .inl rfl
theorem Nx.trans {w w1 : World} {v v1 v2 : Value} (h : Nx w v v1) (k : Nx w1 v1 v2) (hs : w.heap.size ≤ w1.heap.size) : Nx w v v2 := by
  rcases k with k | ⟨b, k, hb⟩
  · rcases h with h | ⟨b, h, hb⟩
    · exact .inl (k.trans h)
    · exact .inr ⟨b, k.trans h, hb⟩
  · exact .inr ⟨b, k, Nat.le_trans hs hb⟩
theorem Nx.ne {w : World} {v v' : Value} (h : Nx w v v') {k : Nat} (hk : k < w.heap.size) (hv : v.ownBlock ≠ some k) : v'.ownBlock ≠ some k := fun e => by
  rcases h with h | ⟨b, h, hb⟩
  · exact hv (h ▸ e)
  · rw [h] at e; cases e; omega
/-- A call on timers g, whose table is s, with rows at v and u, has turned nothing else. -/
structure TchT (w w' : World) (g s : Nat) (v u : Value) : Prop where
  os : w'.os = w.os
  tape : w'.tape = w.tape
  output : w'.output = w.output
  size : w.heap.size ≤ w'.heap.size
  block : ∀ k, k < w.heap.size → k ≠ g → k ≠ s → v.ownBlock ≠ some k → u.ownBlock ≠ some k → w'.heap[k]? = w.heap[k]?
section
variable {w w1 w2 : World} {g s : Nat} {v u v1 u1 : Value}
theorem TchT.below_ (h : Below w.heap.size w w1) : TchT w w1 g s v u := ⟨h.os, h.tape, h.output, h.size, fun k hk _ _ _ _ => h.block k hk⟩
theorem TchT.trans (h : TchT w w1 g s v u) (k : TchT w1 w2 g s v1 u1) (hv : Nx w v v1) (hu : Nx w u u1) : TchT w w2 g s v u :=
  ⟨k.os.trans h.os, k.tape.trans h.tape, k.output.trans h.output, Nat.le_trans h.size k.size, fun i hi h1 h2 h3 h4 => (k.block i (Nat.lt_of_lt_of_le hi h.size) h1 h2 (hv.ne hi h3) (hu.ne hi h4)).trans (h.block i hi h1 h2 h3 h4)⟩
theorem TchT.tch (h : Tch w w1 s u) : TchT w w1 g s v u := ⟨h.os, h.tape, h.output, h.size, fun k hk _ h2 _ h4 => h.block k hk h2 h4⟩
theorem TchT.grown (h : w.grownBy w1 v.ownBlock) : TchT w w1 g s v u := ⟨h.os, h.tape, h.output, h.size, fun k hk _ _ h3 _ => h.block k hk (fun e => h3 e.symm)⟩
theorem TchT.set (o : Nat) (x : Value) : TchT w (w.setCell ⟨g, o, none⟩ x) g s v u := ⟨rfl, rfl, rfl, by simp, fun k _ h1 _ _ _ => Below.heap_setCell _ _ _ _ h1⟩
end
theorem two_set {W : World} {k : Nat} {t : TypeId} {a b : Value} (h : W.heap[k]? = some (.cells #[a, b] t (0, 0))) (v : Value) : (W.setCell ⟨k, 1, none⟩ v).heap[k]? = some (.cells #[a, v] t (0, 0)) := by
  simp [World.setCell, Array.getElem?_modify, h]

/-- Timers: block g holds the table's pointer and the line's row. -/
structure TmI (w : World) (base g s : Nat) (L T : List (Int × Int)) (v u : Value) : Prop where
  box : w.heap[g]? = some (.cells #[.pointer (some ⟨s, 0, none⟩), v] 82 (0, 0))
  row : w.ownsRow base 93 2 v L.length (fl eI eI L)
  sh : Sh 90 98 w base s T.length (fl eI eI T) u
section
variable {w w' : World} {base g s : Nat} {L T : List (Int × Int)} {v u : Value}
theorem TmI.lt (h : TmI w base g s L T v u) : g < w.heap.size := (Array.getElem?_eq_some_iff.1 h.box).1
theorem TmI.below (h : TmI w base g s L T v u) (hb : Below w.heap.size w w') : TmI w' base g s L T v u := ⟨(hb.block g h.lt).trans h.box, own_below h.row hb, h.sh.below hb⟩
theorem TmI.cells (h : TmI w base g s L T v u) : w.cell? ⟨g, 0, none⟩ = some (.pointer (some ⟨s, 0, none⟩)) ∧ w.cell? ⟨g, 1, none⟩ = some v := ⟨by rw [cell_of_row _ _ _ _ _ _ h.box]; rfl, by rw [cell_of_row _ _ _ _ _ _ h.box]; rfl⟩
theorem TmI.gs (h : TmI w base g s L T v u) : g ≠ s := fun e => by have := h.box; rw [e, h.sh.box] at this; cases this
theorem TmI.vg (h : TmI w base g s L T v u) : v.ownBlock ≠ some g := own_ne h.row h.box (by decide)
theorem TmI.vs (h : TmI w base g s L T v u) : v.ownBlock ≠ some s := own_ne h.row h.sh.box (by decide)
theorem TmI.ug (h : TmI w base g s L T v u) : u.ownBlock ≠ some g := own_ne h.sh.row h.box (by decide)
theorem TmI.uv (h : TmI w base g s L T v u) {b : Nat} (hb : v.ownBlock = some b) : u.ownBlock ≠ some b := by
  obtain ⟨cs, hc⟩ := own_ty h.row hb
  exact own_ne h.sh.row hc (by decide)
/-- The table has turned. -/
theorem TmI.table {T' : List (Int × Int)} {u' : Value} (h : TmI w base g s L T v u) (ht : Tch w w' s u) (hs : Sh 90 98 w' base s T'.length (fl eI eI T') u') : TmI w' base g s L T' v u' := by
  refine ⟨(ht.block g h.lt h.gs h.ug).trans h.box, ⟨h.row.1, ?_⟩, hs⟩
  rcases h.row.2 with hn | ⟨b, cap, cur, e, hb, hg, rest⟩
  · exact .inl hn
  · subst e
    exact .inr ⟨b, cap, cur, rfl, hb, (ht.block b (Array.getElem?_eq_some_iff.1 hg).1 (fun e => h.vs (by rw [← e]; rfl)) (h.uv rfl)).trans hg, rest⟩
/-- The line has turned, and its row is stored. -/
theorem TmI.line {L' : List (Int × Int)} {v' : Value} (h : TmI w base g s L T v u) (hg : w.grownBy w' v.ownBlock) (hr : w'.ownsRow base 93 2 v' L'.length (fl eI eI L')) : TmI (w'.setCell ⟨g, 1, none⟩ v') base g s L' T v' u := by
  have hb : w'.heap[g]? = some (.cells #[.pointer (some ⟨s, 0, none⟩), v] 82 (0, 0)) := (hg.block g h.lt (fun e => h.vg e.symm)).trans h.box
  refine ⟨two_set hb v', hr.kept (grown_set w' g 1 v') (.inr (own_ne hr hb (by decide))), ?_⟩
  have h1 := h.sh.keep hg (fun e => h.vs e) (fun k e e2 => h.uv e e2)
  exact h1.keep (grown_set w' g 1 v') (fun e => h.gs (by cases e; rfl)) (fun k e e2 => by cases e; exact h.ug e2)
end
/-- What becomes of timers. -/
def GoI (w : World) (base g s : Nat) (L T : List (Int × Int)) (v u : Value) (w' : World) : Prop := ∃ v' u', TmI w' base g s L T v' u' ∧ Nx w v v' ∧ Nx w u u' ∧ TchT w w' g s v u
theorem GoI.of_below {w w' : World} {base g s : Nat} {L T : List (Int × Int)} {v u : Value} (h : TmI w base g s L T v u) (hb : Below w.heap.size w w') : GoI w base g s L T v u w' := ⟨v, u, h.below hb, .rfl' _ _, .rfl' _ _, .below_ hb⟩
theorem tnewI (w : World) : Calls Try.prog 27 #[] w fun e w' => ∃ g s, e = .returned (.pointer (some ⟨g, 0, none⟩)) ∧ TmI w' w.heap.size g s [] [] (.slice none 0 0) (.slice none 0 0) ∧ w.heap.size ≤ g ∧ w.heap.size ≤ s ∧ Below w.heap.size w w' := by
  have HN := Lib.hid (newA w)
  go_enter Try.func27, Try.ntmps27
  go_wp2_with fail
  refine HN.out.mono ?_
  rintro e w1 ⟨rfl, hx, hb⟩
  have hn := heap_alloc_new w1 (.cells #[.pointer (some ⟨w.heap.size, 0, none⟩), .slice none 0 0] 82)
  have hal : Below w1.heap.size w1 (w1.alloc (.cells #[.pointer (some ⟨w.heap.size, 0, none⟩), .slice none 0 0] 82)) := (Below.refl _ _).alloc (Nat.le_refl _) _
  have hx2 := hx.below hal
  have HT : Hid (TmI (w1.alloc (.cells #[.pointer (some ⟨w.heap.size, 0, none⟩), .slice none 0 0] 82)) w.heap.size w1.heap.size w.heap.size [] [] (.slice none 0 0) (.slice none 0 0)) := Lib.hid ⟨hn, ⟨rfl, .inl ⟨rfl, rfl⟩⟩, hx2.box, ⟨rfl, .inl ⟨rfl, rfl⟩⟩, hx2.isnt⟩
  have HB := Lib.hid (kF hal hb)
  have HS := Lib.hid hb.size
  clear hx hb hn hal hx2
  go_wp2_with fail
  go_ret
  exact ⟨_, _, rfl, HT.out, HS.out, Nat.le_refl _, HB.out⟩
theorem whenI (w : World) (base g s : Nat) (L T : List (Int × Int)) (v u : Value) (k : Int) (h : TmI w base g s L T v u) (hT : T.length ≤ 1000) (hs : Rise T) :
    Calls Try.prog 41 #[.pointer (some ⟨g, 0, none⟩), .int .i64 k] w fun e w' => e = .returned (.tuple #[.int .i64 (thI 0 k T), .bool (hasI k T)]) ∧ Below w.heap.size w w' := by
  have HG := Lib.hid (getA w base s T u k h.sh (by omega) hs)
  obtain ⟨c0, c1⟩ := h.cells
  have hl := h.lt
  generalize thI 0 k T = A at *
  generalize hasI k T = B at *
  clear h
  go_enter Try.func41, Try.ntmps41
  go_wp2_with fail
  refine HG.out.mono ?_
  rintro e w1 ⟨rfl, hb⟩
  clear c0 c1
  go_wp2_with fail
  go_ret2
  exact ⟨rfl, hb⟩
set_option maxRecDepth 100000 in
set_option maxHeartbeats 2000000 in
theorem tplaceI (w : World) (base g s : Nat) (L T : List (Int × Int)) (v u : Value) (q : Int × Int) (h : TmI w base g s L T v u) (hn : L.length ≤ 1000) (hr : RiseT tlI L) :
    Calls Try.prog 45 #[.pointer (some ⟨g, 0, none⟩), .agg #[.int .i64 q.1, .int .i64 q.2]] w fun e w' => e = .returned (.int .i64 (plcT tlI q L : Nat)) ∧ Below w.heap.size w w' := by
  obtain ⟨qk, qa⟩ := q
  have hb1 : Below w.heap.size w ((w.alloc (.cells #[.int .i64 qk, .int .i64 qa] 93)).drew) := kF (kD _) ((Below.refl _ _).alloc (Nat.le_refl _) _)
  have hq1 := heap_alloc_new w (.cells #[.int .i64 qk, .int .i64 qa] 93)
  have h1 := h.below hb1
  have k0 : (w.alloc (.cells #[.int .i64 qk, .int .i64 qa] 93)).drew.cell? ⟨g, 1, none⟩ = some v ∧ (w.alloc (.cells #[.int .i64 qk, .int .i64 qa] 93)).drew.cell? ⟨w.heap.size, 0, none⟩ = some (.int .i64 qk) ∧ (w.alloc (.cells #[.int .i64 qk, .int .i64 qa] 93)).drew.cell? ⟨w.heap.size, 1, none⟩ = some (.int .i64 qa) :=
    ⟨h1.cells.2, by show (w.alloc _).cell? _ = _; rw [cell_of_row _ _ _ _ _ _ hq1]; rfl, by show (w.alloc _).cell? _ = _; rw [cell_of_row _ _ _ _ _ _ hq1]; rfl⟩
  have HBS := Lib.hid (bsTI _ base L.length v L (qk, qa) h1.row (by omega) hr)
  have hgl := h1.lt
  have HB1 := Lib.hid hb1
  have hsz : w.heap.size < (w.alloc (.cells #[.int .i64 qk, .int .i64 qa] 93)).drew.heap.size := by simp
  generalize plcT tlI (qk, qa) L = P at *
  generalize L.length = n at *
  have HGL := Lib.hid hgl
  have HSZ := Lib.hid hsz
  clear h h1 hb1 hq1 hr hgl hsz
  go_enter Try.func45, Try.ntmps45
  go_wp2_with fail
  go_region_held3 (fun w' => w'.cell? ⟨g, 1, none⟩ = some v ∧ w'.cell? ⟨w.heap.size, 0, none⟩ = some (.int .i64 qk) ∧ w'.cell? ⟨w.heap.size, 1, none⟩ = some (.int .i64 qa))
    (first | exact k0 | exact k1)
    (first
      | (go_at_call 53; (with_reducible refine HBS.out.mono ?_); rintro e w2 ⟨⟨f, rfl⟩, hb2⟩
         have k1 : w2.cell? ⟨g, 1, none⟩ = some v ∧ w2.cell? ⟨w.heap.size, 0, none⟩ = some (.int .i64 qk) ∧ w2.cell? ⟨w.heap.size, 1, none⟩ = some (.int .i64 qa) := ⟨(hb2.cell (p := ⟨g, 1, none⟩) HGL.out).trans k0.1, (hb2.cell (p := ⟨w.heap.size, 0, none⟩) HSZ.out).trans k0.2.1, (hb2.cell (p := ⟨w.heap.size, 1, none⟩) HSZ.out).trans k0.2.2⟩
         have HB2 := Lib.hid (kF hb2 HB1.out)
         clear hb2))
  go_wp2_with fail
  go_ret
  exact ⟨rfl, HB2.out⟩
theorem stop_noI (w : World) (base g s : Nat) (L T : List (Int × Int)) (v u : Value) (k : Int) (h : TmI w base g s L T v u) (hT : T.length ≤ 1000) (hs : Rise T) (hh : hasI k T = false) :
    Calls Try.prog 39 #[.pointer (some ⟨g, 0, none⟩), .int .i64 k] w fun e w' => (∃ b, e = .returned (.bool b)) ∧ e = .returned (.bool false) ∧ GoI w base g s L T v u w' := by
  have hw := whenI w base g s L T v u k h hT hs
  rw [hh] at hw
  have HW := Lib.hid hw
  have H := Lib.hid h
  generalize thI 0 k T = A at *
  clear hw h hh
  go_enter Try.func39, Try.ntmps39
  go_wp2_with fail
  refine HW.out.mono ?_
  rintro e w1 ⟨rfl, hb⟩
  have HB := Lib.hid hb
  clear hb
  go_wp2_with fail
  go_ret
  exact ⟨⟨_, rfl⟩, rfl, .of_below H.out HB.out⟩
set_option maxRecDepth 100000 in
set_option maxHeartbeats 2000000 in
theorem stop_yesI (w : World) (base g s i : Nat) (L T L' : List (Int × Int)) (v u : Value) (k : Int) (at_ : Int) (h : TmI w base g s L T v u) (hn : L.length ≤ 1000) (hT : T.length ≤ 1000) (hr : RiseT tlI L) (hs : Rise T) (hh : hasI k T = true) (ht : thI 0 k T = at_) (hi : L[i]? = some (k, at_)) (hp : plcT tlI (k, at_) L = i) (hL' : L' = L.take i ++ L.drop (i + 1)) :
    Calls Try.prog 39 #[.pointer (some ⟨g, 0, none⟩), .int .i64 k] w fun e w' => (∃ b, e = .returned (.bool b)) ∧ e = .returned (.bool true) ∧ GoI w base g s L' (cutI k T) v u w' := by
  have hw := whenI w base g s L T v u k h hT hs
  rw [hh, ht] at hw
  have hil := (List.getElem?_eq_some_iff.1 hi).1
  have hlen : L'.length + 1 = L.length := by rw [hL']; simp; omega
  have hfl : (fl eI eI L).take (i * 2) ++ (fl eI eI L).drop ((i + 1) * 2) = fl eI eI L' := by rw [hL', fl_take, fl_drop, fl_append]
  have hct := fun (x : World) (hx : TmI x base g s L T v u) => cutA x base s T u k hx.sh hT hs
  have hpl := fun (x : World) (u' : Value) (hx : TmI x base g s L (cutI k T) v u') => tplaceI x base g s L (cutI k T) v u' (k, at_) hx hn hr
  rw [hp] at hpl
  have hdl := fun (x : World) (u' : Value) (hx : TmI x base g s L (cutI k T) v u') => delete_anyT x base L'.length i v (fl eI eI L) (by rw [hlen]; exact hx.row) (by omega) (by omega) (fl_one eI eI (fun _ => rfl) (fun _ => rfl) L)
  rw [hfl] at hdl
  obtain ⟨a, c, rfl⟩ := own_slice h.row
  have HW := Lib.hid hw
  have H := Lib.hid h
  have HCT := Lib.hid hct
  have HPL := Lib.hid hpl
  have HDL := Lib.hid hdl
  have HLN := Lib.hid hlen
  generalize cutI k T = T' at *
  clear hw h hh ht hi hp hL' hfl hct hpl hdl hr hs hlen
  go_enter Try.func39, Try.ntmps39
  go_wp2_with fail
  refine HW.out.mono ?_
  rintro e w1 ⟨rfl, hb1⟩
  have HB1 := Lib.hid hb1
  have H1 := Lib.hid (H.out.below hb1)
  obtain ⟨c0, c1⟩ := H1.out.cells
  have hl := H1.out.lt
  clear hb1
  go_wp2_with fail
  refine (HCT.out w1 H1.out).mono ?_
  rintro e w2 ⟨rfl, ⟨u2, hs2, ho2⟩, ht2⟩
  have hx2 : Nx w1 u u2 := ho2
  have HX2 := Lib.hid ((Nx.rfl' w u).trans hx2 HB1.out.size)
  have HT2 := Lib.hid (H1.out.table ht2 hs2)
  have HC2 : Hid (TchT w w2 g s (.slice a L.length c) u) := Lib.hid ((TchT.below_ HB1.out).trans (TchT.tch ht2) (.rfl' _ _) (.rfl' _ _))
  clear hs2 ho2 ht2 hx2 c0 c1 hl
  go_wp2_with fail
  refine (HPL.out w2 u2 HT2.out).mono ?_
  rintro e w3 ⟨rfl, hb3⟩
  have H3 := Lib.hid (HT2.out.below hb3)
  have HC3 := Lib.hid (HC2.out.trans (TchT.below_ hb3) (.rfl' _ _) HX2.out)
  obtain ⟨c0, c1⟩ := H3.out.cells
  clear hb3
  go_wp2_with fail
  refine (HDL.out w3 u2 H3.out).mono ?_
  rintro e w4 ⟨v4, rfl, hrow4, hgr4, hob4⟩
  obtain ⟨a4, c4, rfl⟩ := own_slice hrow4
  have hb4 := (hgr4.block g H3.out.lt (fun e => H3.out.vg e.symm)).trans H3.out.box
  have c1 : w4.cell? ⟨g, 1, none⟩ = some (.slice a L.length c) := by rw [cell_of_row _ _ _ _ _ _ hb4]; rfl
  have f1 : w4.frozen? ⟨g, 1, none⟩ = false := frozen_of_row _ _ _ _ _ hb4
  have hx4 : Nx w3 (.slice a L.length c) (.slice a4 L'.length c4) := hob4
  have HX4 : Hid (Nx w (.slice a L.length c) (.slice a4 L'.length c4)) := Lib.hid ((Nx.rfl' w _).trans hx4 HC3.out.size)
  have HT4 := Lib.hid (H3.out.line hgr4 hrow4)
  have HC4 := Lib.hid ((HC3.out.trans (TchT.grown (g := g) (s := s) (u := u2) hgr4) (.rfl' _ _) HX2.out).trans (TchT.set (g := g) (s := s) (v := .slice a4 L'.length c4) (u := u2) 1 (.slice a4 L'.length c4)) HX4.out HX2.out)
  clear hrow4 hgr4 hob4 hb4 hx4 c0
  go_wp2_with fail
  go_ret
  exact ⟨⟨_, rfl⟩, rfl, _, u2, HT4.out, HX4.out, HX2.out, HC4.out⟩
set_option maxRecDepth 100000 in
set_option maxHeartbeats 4000000 in
theorem tsetI (w : World) (base g s : Nat) (L T L1 T1 : List (Int × Int)) (v u : Value) (k : Int) (at_ : Int) (h : TmI w base g s L T v u) (hbase : base ≤ w.heap.size)
    (hst : Calls Try.prog 39 #[.pointer (some ⟨g, 0, none⟩), .int .i64 k] w fun e w' => (∃ b, e = .returned (.bool b)) ∧ GoI w base g s L1 T1 v u w') (hn : L1.length ≤ 900) (hT : T1.length ≤ 900) (hr : RiseT tlI L1) (hs : Rise T1) :
    Calls Try.prog 40 #[.pointer (some ⟨g, 0, none⟩), .int .i64 k, .int .i64 at_] w fun e w' => e = .returned (.tuple #[]) ∧ GoI w base g s (insT tlI (k, at_) L1) (putI k at_ T1) v u w' := by
  have HST := Lib.hid hst
  have HPU := Lib.hid (fun (x : World) (v' u' : Value) (hx : TmI x base g s L1 T1 v' u') (hb : base ≤ x.heap.size) => putA x base s T1 u' k at_ hx.sh hb (by omega) hs)
  have HPL0 := Lib.hid (fun (x : World) (v' u' : Value) (hx : TmI x base g s L1 (putI k at_ T1) v' u') => tplaceI x base g s L1 (putI k at_ T1) v' u' (k, at_) hx (by omega) hr)
  have HLE := Lib.hid (plcT_le (lt := tlI) (k, at_) L1)
  have HNL := Lib.hid (insT_len (lt := tlI) (k, at_) L1)
  have HFL : Hid ((fl eI eI L1).take (plcT tlI (k, at_) L1 * 2) ++ [.int .i64 k, .int .i64 at_] ++ (fl eI eI L1).drop (plcT tlI (k, at_) L1 * 2) = fl eI eI (insT tlI (k, at_) L1)) := Lib.hid (by unfold insT; rw [fl_take, fl_drop, fl_append, fl_append]; rfl)
  have hgl := h.lt
  have HBASE := Lib.hid hbase
  have HONE := Lib.hid (fl_one eI eI (fun _ => rfl) (fun _ => rfl) L1)
  clear h hst hr hs
  go_enter Try.func40, Try.ntmps40
  go_wp2_with fail
  refine HST.out.mono ?_
  rintro e w2 ⟨⟨b, rfl⟩, v2, u2, ht2, hv2, hu2, hc2⟩
  have H2 := Lib.hid ht2
  have HV2 := Lib.hid hv2
  have HU2 := Lib.hid hu2
  have HC2 := Lib.hid hc2
  obtain ⟨c0, c1⟩ := ht2.cells
  have hl2 := ht2.lt
  clear ht2 hv2 hu2 hc2
  go_wp2_with fail
  refine (HPU.out w2 v2 u2 H2.out (Nat.le_trans HBASE.out HC2.out.size)).mono ?_
  rintro e w3 ⟨rfl, ⟨u3, hs3, ho3⟩, ht3⟩
  have hx3 : Nx w2 u2 u3 := ho3
  have HUX := Lib.hid (HU2.out.trans hx3 HC2.out.size)
  have HT3 := Lib.hid (H2.out.table ht3 hs3)
  have HC3 := Lib.hid (HC2.out.trans (TchT.tch (g := g) (v := v2) ht3) HV2.out HU2.out)
  have hb4 : Below w3.heap.size w3 (w3.alloc (.cells #[.int .i64 k, .int .i64 at_] 93)) := (Below.refl _ _).alloc (Nat.le_refl _) _
  have hD4 := heap_alloc_new w3 (.cells #[.int .i64 k, .int .i64 at_] 93)
  have H4 := Lib.hid (HT3.out.below hb4)
  have HC4 := Lib.hid (HC3.out.trans (TchT.below_ (g := g) (s := s) (v := v2) (u := u3) hb4) HV2.out HUX.out)
  have HVX := HV2
  obtain ⟨a, c, rfl⟩ := own_slice H4.out.row
  have HDN := Lib.hid (fun b (hb : (Value.slice a L1.length c).ownBlock = some b) => show b < w3.heap.size from (HT3.out.row.lt b hb).2)
  have HD4 := Lib.hid hD4
  have HL3 := Lib.hid (show w3.heap.size < (w3.alloc (.cells #[.int .i64 k, .int .i64 at_] 93)).heap.size from by simp)
  clear hs3 ho3 ht3 hx3 hb4 hD4 c0 c1 hl2
  go_wp2_with fail
  generalize w3.alloc (.cells #[.int .i64 k, .int .i64 at_] 93) = w4 at H4 HC4 HD4 HL3 ⊢
  have hgl4 := H4.out.lt
  have HS := Lib.hid (fun x (hx : Below w4.heap.size w4 x) => show (x.cell? ⟨g, 1, none⟩ = some (.slice a L1.length c) ∧ x.cell? ⟨w3.heap.size, 0, none⟩ = some (.int .i64 k) ∧ x.cell? ⟨w3.heap.size, 1, none⟩ = some (.int .i64 at_)) from ⟨(H4.out.below hx).cells.2, by rw [cell_of_row _ _ _ _ _ _ ((hx.block _ HL3.out).trans HD4.out)]; rfl, by rw [cell_of_row _ _ _ _ _ _ ((hx.block _ HL3.out).trans HD4.out)]; rfl⟩)
  have HPC := Lib.hid (fun x (hx : Below w4.heap.size w4 x) => HPL0.out x _ u3 (H4.out.below hx))
  have HIC := Lib.hid (fun x d (hx : Below w4.heap.size w4 x) (hd : w4.heap.size ≤ d) hnew => by
    have hk := insert_anyT x base L1.length (plcT tlI (k, at_) L1) d (.slice a L1.length c) (fl eI eI L1) [.int .i64 k, .int .i64 at_] (H4.out.below hx).row (by have := HBASE.out; have := HC4.out.size; have := hx.size; omega) HLE.out (by omega) hnew rfl (by simp [Value.oneCell']) HONE.out (fun e => by have := (H4.out.row.lt _ e).2; omega)
    rw [HFL.out, ← HNL.out] at hk
    exact hk)
  have HSI := Lib.hid (fun x y (hx : Below w4.heap.size w4 x) (hg : x.grownBy y (Value.slice a L1.length c).ownBlock) => show y.frozen? ⟨g, 1, none⟩ = false ∧ y.heap[g]? = w4.heap[g]? ∧ (y.cell? ⟨g, 1, none⟩ = some (.slice a L1.length c) ∧ y.cell? ⟨w3.heap.size, 0, none⟩ = some (.int .i64 k) ∧ y.cell? ⟨w3.heap.size, 1, none⟩ = some (.int .i64 at_)) from by
    have hxb := H4.out.below hx
    have e1 : y.heap[g]? = x.heap[g]? := hg.block g hxb.lt (fun e => hxb.vg e.symm)
    have e2 : y.heap[w3.heap.size]? = x.heap[w3.heap.size]? := hg.block _ (Nat.lt_of_lt_of_le HL3.out hx.size) (fun e => by have := HDN.out _ e.symm; omega)
    exact ⟨frozen_of_row _ _ _ _ _ (e1.trans hxb.box), e1.trans (hx.block g hgl4), by rw [cell_of_row _ _ _ _ _ _ (e1.trans hxb.box)]; rfl, by rw [cell_of_row _ _ _ _ _ _ (e2.trans ((hx.block _ HL3.out).trans HD4.out))]; rfl, by rw [cell_of_row _ _ _ _ _ _ (e2.trans ((hx.block _ HL3.out).trans HD4.out))]; rfl⟩)
  refine wp_region_last (fun w' => w'.cell? ⟨g, 1, none⟩ = some (.slice a L1.length c) ∧ w'.cell? ⟨w3.heap.size, 0, none⟩ = some (.int .i64 k) ∧ w'.cell? ⟨w3.heap.size, 1, none⟩ = some (.int .i64 at_)) 13 (by kernel_rfl) (HS.out _ (kD _)) (fun hHeld => ?_)
  refine wpAnyL_take (i := 0) (v := ?_) rfl (by kernel_rfl) (by kernel_rfl) (by kernel_rfl) (by kernel_rfl) (by kernel_rfl) (fun _ _ _ h => h) (Or.inl ⟨by rfl, ?_⟩) (by assumption) ?_
  rotate_left
  · intro wq hSw; (try dsimp only at hSw); first | (go_simp; done) | (go_simp; with_reducible rfl) | with_reducible rfl
  try simp only [Act.put, List.setIfInBounds_toArray, List.set_cons_zero, List.set_cons_succ]
  refine wpAnyL_take (i := 1) (v := ?_) rfl (by kernel_rfl) (by kernel_rfl) (by kernel_rfl) (by kernel_rfl) (by kernel_rfl) (fun _ _ _ h => h) (Or.inl ⟨by rfl, ?_⟩) (by assumption) ?_
  rotate_left
  · intro wq hSw; (try dsimp only at hSw); first | (go_simp; done) | (go_simp; with_reducible rfl) | with_reducible rfl
  try simp only [Act.put, List.setIfInBounds_toArray, List.set_cons_zero, List.set_cons_succ]
  refine wpAnyL_take (i := 2) (v := ?_) rfl (by kernel_rfl) (by kernel_rfl) (by kernel_rfl) (by kernel_rfl) (by kernel_rfl) (fun _ _ _ h => h) (Or.inl ⟨by rfl, ?_⟩) (by assumption) ?_
  rotate_left
  · intro wq hSw; (try dsimp only at hSw); first | (go_simp; done) | (go_simp; with_reducible rfl) | with_reducible rfl
  try simp only [Act.put, List.setIfInBounds_toArray, List.set_cons_zero, List.set_cons_succ]
  refine wpAnyL_take (i := 3) (v := ?_) rfl (by kernel_rfl) (by kernel_rfl) (by kernel_rfl) (by kernel_rfl) (by kernel_rfl) (fun _ _ _ h => h) (Or.inl ⟨by rfl, ?_⟩) (by assumption) ?_
  rotate_left
  · intro wq hSw; (try dsimp only at hSw); first | (go_simp; done) | (go_simp; with_reducible rfl) | with_reducible rfl
  try simp only [Act.put, List.setIfInBounds_toArray, List.set_cons_zero, List.set_cons_succ]
  refine wpAnyL_take (i := 4) (v := ?_) rfl (by kernel_rfl) (by kernel_rfl) (by kernel_rfl) (by kernel_rfl) (by kernel_rfl) (fun _ _ _ h => h) (Or.inl ⟨by rfl, ?_⟩) (by assumption) ?_
  rotate_left
  · intro wq hSw; (try dsimp only at hSw); first | (go_simp; done) | (go_simp; with_reducible rfl) | with_reducible rfl
  try simp only [Act.put, List.setIfInBounds_toArray, List.set_cons_zero, List.set_cons_succ]
  refine wpAnyL_take (i := 5) (v := ?_) rfl (by kernel_rfl) (by kernel_rfl) (by kernel_rfl) (by kernel_rfl) (by kernel_rfl) (fun _ _ _ h => h) (Or.inl ⟨by rfl, ?_⟩) (by assumption) ?_
  rotate_left
  · intro wq hSw; (try dsimp only at hSw); first | (go_simp; done) | (go_simp; with_reducible rfl) | with_reducible rfl
  try simp only [Act.put, List.setIfInBounds_toArray, List.set_cons_zero, List.set_cons_succ]
  refine wpAnyL_take (i := 6) (v := ?_) rfl (by kernel_rfl) (by kernel_rfl) (by kernel_rfl) (by kernel_rfl) (by kernel_rfl) (fun _ _ _ h => h) (Or.inl ⟨by rfl, ?_⟩) (by assumption) ?_
  rotate_left
  · intro wq hSw; (try dsimp only at hSw); first | (go_simp; done) | (go_simp; with_reducible rfl) | with_reducible rfl
  try simp only [Act.put, List.setIfInBounds_toArray, List.set_cons_zero, List.set_cons_succ]
  refine wpAnyL_take (i := 8) (v := ?_) rfl (by kernel_rfl) (by kernel_rfl) (by kernel_rfl) (by kernel_rfl) (by kernel_rfl) (fun _ _ _ h => h) (Or.inl ⟨by rfl, ?_⟩) (by assumption) ?_
  rotate_left
  · intro wq hSw; (try dsimp only at hSw); first | (go_simp; done) | (go_simp; with_reducible rfl) | with_reducible rfl
  try simp only [Act.put, List.setIfInBounds_toArray, List.set_cons_zero, List.set_cons_succ]
  refine wpAnyL_ready (rs := [7, 9]) (by kernel_rfl) (by simp) ?_
  refine (AllReadyL.cons rfl (fun K hK => ?_) (AllReadyL.cons rfl (fun K hK => ?_) AllReadyL.nil))
  · go_simp
    go_wp2_with (go_at_call 45; refine (HPC.out _ (kD _)).mono ?_; rintro e w5 ⟨rfl, hb5⟩; have hq1 : Below w4.heap.size w4 w5 := kF hb5 (kD _))
    refine hK.out _ _ ?_ (fun hHeld => ?_)
    · (try dsimp only); exact HS.out _ hq1
    clear hK K
    refine wpAnyL_ready (rs := [9]) (by kernel_rfl) (by simp) ?_
    refine (AllReadyL.cons rfl (fun K hK => ?_) AllReadyL.nil)
    go_simp
    refine hK.out _ _ ?_ (fun hHeld => ?_)
    · (try dsimp only); exact HS.out _ (kA hq1 _)
    clear hK K
    refine wpAnyL_ready (rs := [10]) (by kernel_rfl) (by simp) ?_
    refine (AllReadyL.cons rfl (fun K hK => ?_) AllReadyL.nil)
    go_simp
    go_wp2_with (go_at_call 48; refine (HIC.out _ _ (kA hq1 (.cells #[.int .i64 k, .int .i64 at_] 93)) (hq1.size) (heap_alloc_new w5 _)).mono ?_; rintro e w6 ⟨v', rfl, hown', hgr', hob'⟩; obtain ⟨a6, c6, rfl⟩ := own_slice hown'; have hq6 := HSI.out _ w6 (kA hq1 (.cells #[.int .i64 k, .int .i64 at_] 93)) hgr'; have hk6 := hq6.2.2; have hf6 := hq6.1; have he6 := hq6.2.1; have ht6 := (H4.out.below (kA hq1 (.cells #[.int .i64 k, .int .i64 at_] 93))).line hgr' hown'; have hb6 : Below w4.heap.size w4 _ := kA hq1 (.cells #[.int .i64 k, .int .i64 at_] 93))
    refine hK.out _ _ ?_ (fun hHeld => ?_)
    · (try dsimp only); exact hk6
    clear hK K
    refine wpAnyL_take (i := 11) (v := ?_) rfl (by kernel_rfl) (by kernel_rfl) (by kernel_rfl) (by kernel_rfl) (by kernel_rfl) (fun _ _ _ h => h) (Or.inl ⟨by rfl, ?_⟩) (by assumption) ?_
    rotate_left
    · intro wq hSw; (try dsimp only at hSw); first | (go_simp; done) | (go_simp; with_reducible rfl) | with_reducible rfl
    try simp only [Act.put, List.setIfInBounds_toArray, List.set_cons_zero, List.set_cons_succ]
    refine wpAnyL_take (i := 12) (v := ?_) rfl (by kernel_rfl) (by kernel_rfl) (by kernel_rfl) (by kernel_rfl) (by kernel_rfl) (fun _ _ _ h => h) (Or.inl ⟨by rfl, ?_⟩) (by assumption) ?_
    rotate_left
    · intro wq hSw; (try dsimp only at hSw); first | (go_simp; done) | (go_simp; with_reducible rfl) | with_reducible rfl
    try simp only [Act.put, List.setIfInBounds_toArray, List.set_cons_zero, List.set_cons_succ]
    refine wpAnyL_ready (rs := [13]) (by kernel_rfl) (by simp) ?_
    refine AllReadyL.last rfl (fun K hK => ?_)
    go_simp
    refine hK.out _ _ ?_
    clear hK K
    refine wpAnyL_done (by kernel_rfl) ?_ _
    clear hHeld
    go_wp2_with fail
    have hx6 : Nx w4 (.slice a L1.length c) (.slice a6 (insT tlI (k, at_) L1).length c6) := by
      rcases hob' with h | ⟨b, h, h2⟩
      · exact .inl h
      · exact .inr ⟨b, h, by have := hb6.size; omega⟩
    have hX6 := HVX.out.trans hx6 HC4.out.size
    go_end0
    refine ⟨rfl, _, u3, ht6, hX6, HUX.out, ?_⟩
    exact ((HC4.out.trans (TchT.below_ hb6) HVX.out HUX.out).trans (TchT.grown (g := g) (s := s) (u := u3) hgr') HVX.out HUX.out).trans (TchT.set (g := g) (s := s) (v := .slice a6 (insT tlI (k, at_) L1).length c6) (u := u3) 1 _) hX6 HUX.out
  · go_simp
    refine hK.out _ _ ?_ (fun hHeld => ?_)
    · (try dsimp only); exact HS.out _ (kE (kA (Below.refl _ _) _))
    clear hK K
    refine wpAnyL_ready (rs := [7]) (by kernel_rfl) (by simp) ?_
    refine (AllReadyL.cons rfl (fun K hK => ?_) AllReadyL.nil)
    go_simp
    go_wp2_with (go_at_call 45; refine (HPC.out _ (kE (kA (Below.refl _ _) _))).mono ?_; rintro e w5 ⟨rfl, hb5⟩; have hq1 : Below w4.heap.size w4 w5 := kF hb5 (kE (kA (Below.refl _ _) _)))
    refine hK.out _ _ ?_ (fun hHeld => ?_)
    · (try dsimp only); exact HS.out _ hq1
    clear hK K
    refine wpAnyL_ready (rs := [10]) (by kernel_rfl) (by simp) ?_
    refine (AllReadyL.cons rfl (fun K hK => ?_) AllReadyL.nil)
    go_simp
    go_wp2_with (go_at_call 48; refine (HIC.out _ _ (hq1) (Nat.le_refl _) ((hb5.block _ (by simp)).trans (heap_alloc_new w4 _))).mono ?_; rintro e w6 ⟨v', rfl, hown', hgr', hob'⟩; obtain ⟨a6, c6, rfl⟩ := own_slice hown'; have hq6 := HSI.out _ w6 (hq1) hgr'; have hk6 := hq6.2.2; have hf6 := hq6.1; have he6 := hq6.2.1; have ht6 := (H4.out.below (hq1)).line hgr' hown'; have hb6 : Below w4.heap.size w4 _ := hq1)
    refine hK.out _ _ ?_ (fun hHeld => ?_)
    · (try dsimp only); exact hk6
    clear hK K
    refine wpAnyL_take (i := 11) (v := ?_) rfl (by kernel_rfl) (by kernel_rfl) (by kernel_rfl) (by kernel_rfl) (by kernel_rfl) (fun _ _ _ h => h) (Or.inl ⟨by rfl, ?_⟩) (by assumption) ?_
    rotate_left
    · intro wq hSw; (try dsimp only at hSw); first | (go_simp; done) | (go_simp; with_reducible rfl) | with_reducible rfl
    try simp only [Act.put, List.setIfInBounds_toArray, List.set_cons_zero, List.set_cons_succ]
    refine wpAnyL_take (i := 12) (v := ?_) rfl (by kernel_rfl) (by kernel_rfl) (by kernel_rfl) (by kernel_rfl) (by kernel_rfl) (fun _ _ _ h => h) (Or.inl ⟨by rfl, ?_⟩) (by assumption) ?_
    rotate_left
    · intro wq hSw; (try dsimp only at hSw); first | (go_simp; done) | (go_simp; with_reducible rfl) | with_reducible rfl
    try simp only [Act.put, List.setIfInBounds_toArray, List.set_cons_zero, List.set_cons_succ]
    refine wpAnyL_ready (rs := [13]) (by kernel_rfl) (by simp) ?_
    refine AllReadyL.last rfl (fun K hK => ?_)
    go_simp
    refine hK.out _ _ ?_
    clear hK K
    refine wpAnyL_done (by kernel_rfl) ?_ _
    clear hHeld
    go_wp2_with fail
    have hx6 : Nx w4 (.slice a L1.length c) (.slice a6 (insT tlI (k, at_) L1).length c6) := by
      rcases hob' with h | ⟨b, h, h2⟩
      · exact .inl h
      · exact .inr ⟨b, h, by have := hb6.size; omega⟩
    have hX6 := HVX.out.trans hx6 HC4.out.size
    go_end0
    refine ⟨rfl, _, u3, ht6, hX6, HUX.out, ?_⟩
    exact ((HC4.out.trans (TchT.below_ hb6) HVX.out HUX.out).trans (TchT.grown (g := g) (s := s) (u := u3) hgr') HVX.out HUX.out).trans (TchT.set (g := g) (s := s) (v := .slice a6 (insT tlI (k, at_) L1).length c6) (u := u3) 1 _) hX6 HUX.out

section
variable {w w' : World} {base g s : Nat} {L T : List (ByteArray × Int)} {v u : Value}
end
end Go.Proofs.Ythofimkjemhnoaa