/- pulse: the document's Tick. -/
import Derived.Test.YthofimkjemhnoaaPud
import Derived.Test.YthofimkjemhnoaaPCEls
import Derived.Deep.CutBlock
namespace Go.Proofs.Ythofimkjemhnoaa
open Go.RowKit Go.Joins Go.ChangeShapes Go.WideShapes Go.Deep
set_option linter.unusedSimpArgs false
set_option linter.unusedVariables false

theorem results_cell_cell_tmp_row {P : Program} {fn : Func} {p q u : Tmp} {ty ty2 : TypeId} (h : fn.results = #[.cell p ty, .cell q ty2, .tmp u]) (tmps : Array Value) (w : World) (g g2 : Nat) (t t2 : TypeId) (cs cs2 : Array Value) (fr fr2 : Nat × Nat) (d d2 : TypeDesc)
    (hp : tmps.getD p undef = .pointer (some ⟨g, 0, none⟩)) (hg : w.heap[g]? = some (.cells cs t fr)) (hu : P.underlying ty = some d) (hd : (match d with | .struct _ | .array _ _ => true | _ => false) = true) (hi : (P.info? ty).map (·.size) = some cs.size)
    (hp2 : tmps.getD q undef = .pointer (some ⟨g2, 0, none⟩)) (hg2 : w.heap[g2]? = some (.cells cs2 t2 fr2)) (hu2 : P.underlying ty2 = some d2) (hd2 : (match d2 with | .struct _ | .array _ _ => true | _ => false) = true) (hi2 : (P.info? ty2).map (·.size) = some cs2.size) :
    (results fn tmps).run P w = .ok (.tuple #[.agg cs, .agg cs2, tmps.getD u undef]) w := by
  have hp' : tmps[p]?.getD undef = .pointer (some ⟨g, 0, none⟩) := by simpa using hp
  have hp2' : tmps[q]?.getD undef = .pointer (some ⟨g2, 0, none⟩) := by simpa using hp2
  simp [results, h, hp', hp2', asAddr, run_loadVar_row w g t ty cs fr d hg hu hd hi, run_loadVar_row w g2 t2 ty2 cs2 fr2 d2 hg2 hu2 hd2 hi2]
def RpAt (w : World) (g : Nat) (p x o n : Int) : Prop := w.heap[g]? = some (.cells #[.int .i64 p, .int .i64 x, .int .i64 o, .int .i64 n] 36 (0, 0))
theorem info_rp : (Try.prog.info? 36).map (·.size) = some 4 := by kernel_rfl
theorem one_rp (p x o n : Int) : (#[.int .i64 p, .int .i64 x, .int .i64 o, .int .i64 n] : Array Value).all (·.oneCell') = true := by simp [Value.oneCell']
theorem RpAt.lt {w : World} {g : Nat} {p x o n : Int} (h : RpAt w g p x o n) : g < w.heap.size := (Array.getElem?_eq_some_iff.1 h).1
theorem RpAt.cells {w : World} {g : Nat} {p x o n : Int} (h : RpAt w g p x o n) : w.cell? ⟨g, 0, none⟩ = some (.int .i64 p) ∧ w.cell? ⟨g, 1, none⟩ = some (.int .i64 x) ∧ w.cell? ⟨g, 2, none⟩ = some (.int .i64 o) ∧ w.cell? ⟨g, 3, none⟩ = some (.int .i64 n) := by
  refine ⟨?_, ?_, ?_, ?_⟩ <;> (rw [cell_of_row _ _ _ _ _ _ h]; rfl)
theorem RpAt.frozen {w : World} {g : Nat} {p x o n : Int} (h : RpAt w g p x o n) (i : Nat) : w.frozen? ⟨g, i, none⟩ = false := frozen_of_row _ _ _ _ _ h
theorem RpAt.below {B g : Nat} {w w' : World} {p x o n : Int} (h : RpAt w g p x o n) (hb : Below B w w') (hg : g < B) : RpAt w' g p x o n := (hb.block g hg).trans h
theorem RpAt.row {w : World} {g : Nat} {p x o n : Int} (h : RpAt w g p x o n) (p' x' o' n' : Int) : RpAt (w.setRow g #[.int .i64 p', .int .i64 x', .int .i64 o', .int .i64 n']) g p' x' o' n' := setRow_heap _ _ _ _ _ (0, 0) h
theorem RpAt.row_of {w : World} {g k : Nat} {p x o n : Int} (h : RpAt w g p x o n) (hk : g ≠ k) (cs : Array Value) : RpAt (w.setRow k cs) g p x o n := (setRow_other w k g cs hk).trans h
theorem RpAt.othp {g : Nat} {w w' : World} {p x o n : Int} (h : RpAt w g p x o n) (ho : OthP w w') : RpAt w' g p x o n := ((ho _ (by decide) (by decide) (by decide) (by decide) (by decide)).2 _ _ _ h).trans h
theorem RpAt.setc {w : World} {g : Nat} {p x o n : Int} (e : RpAt w g p x o n) (i : Nat) (v : Value) {p' x' o' n' : Int} (he : (#[.int .i64 p, .int .i64 x, .int .i64 o, .int .i64 n] : Array Value).setIfInBounds i v = #[.int .i64 p', .int .i64 x', .int .i64 o', .int .i64 n']) : RpAt (w.setCell ⟨g, i, none⟩ v) g p' x' o' n' := by
  show (w.setCell ⟨g, i, none⟩ v).heap[g]? = _
  rw [← he]
  exact heap_setCell_same w g i _ _ _ e
structure RtS (w : World) (p x o n : Int) (y : World) : Prop where
  a : RpAt y w.heap.size p x o n
  m : RpAt y (w.heap.size + 1) 0 0 0 0
  f : FrAt y (w.heap.size + 2) 0 false 0 (fun _ => 0)
  b : Below w.heap.size w y
section
variable {w y z : World} {p x o n : Int}
theorem RtS.lt (h : RtS w p x o n y) : w.heap.size + 2 < y.heap.size := h.f.lt
theorem RtS.below (h : RtS w p x o n y) (hb : Below y.heap.size y z) : RtS w p x o n z := ⟨h.a.below hb h.a.lt, h.m.below hb h.m.lt, h.f.below hb h.f.lt, h.b.trans (hb.mono h.b.size)⟩
theorem RtS.row (h : RtS w p x o n y) {g : Nat} (hg : w.heap.size + 2 < g) (cs : Array Value) : RtS w p x o n (y.setRow g cs) :=
  ⟨h.a.row_of (by omega) cs, h.m.row_of (by omega) cs, h.f.row_other (by omega) cs, below_setRow h.b (by omega) cs⟩
theorem RtS.setc (h : RtS w p x o n y) (i : Nat) (v : Value) {p' x' o' n' : Int} (he : (#[.int .i64 p, .int .i64 x, .int .i64 o, .int .i64 n] : Array Value).setIfInBounds i v = #[.int .i64 p', .int .i64 x', .int .i64 o', .int .i64 n']) : RtS w p' x' o' n' (y.setCell ⟨w.heap.size, i, none⟩ v) :=
  ⟨h.a.setc i v he, (Below.heap_setCell y _ v _ (show w.heap.size + 1 ≠ w.heap.size by omega)).trans h.m, (Below.heap_setCell y _ v _ (show w.heap.size + 2 ≠ w.heap.size by omega)).trans h.f, h.b.setCell (p := ⟨w.heap.size, i, none⟩) (Nat.le_refl _) v⟩
theorem rtS_start : RtS w p x o n (((w.alloc (.cells #[.int .i64 p, .int .i64 x, .int .i64 o, .int .i64 n] 36)).alloc (.cells #[.int .i64 0, .int .i64 0, .int .i64 0, .int .i64 0] 36)).alloc (.cells #[.int .i64 0, .bool false, .int .i64 0, .int .u8 0, .int .u8 0, .int .u8 0, .int .u8 0, .int .u8 0, .int .u8 0, .int .u8 0, .int .u8 0] 24)) := by
  have h0 := (Below.refl w.heap.size w).alloc (Nat.le_refl _) (.cells #[.int .i64 p, .int .i64 x, .int .i64 o, .int .i64 n] 36)
  have e0 : RpAt (w.alloc (.cells #[.int .i64 p, .int .i64 x, .int .i64 o, .int .i64 n] 36)) w.heap.size p x o n := heap_alloc_new _ _
  have e1 : RpAt ((w.alloc (.cells #[.int .i64 p, .int .i64 x, .int .i64 o, .int .i64 n] 36)).alloc (.cells #[.int .i64 0, .int .i64 0, .int .i64 0, .int .i64 0] 36)) (w.heap.size + 1) 0 0 0 0 := by
    have := heap_alloc_new (w.alloc (.cells #[.int .i64 p, .int .i64 x, .int .i64 o, .int .i64 n] 36)) (.cells #[.int .i64 0, .int .i64 0, .int .i64 0, .int .i64 0] 36)
    have hz : (w.alloc (.cells #[.int .i64 p, .int .i64 x, .int .i64 o, .int .i64 n] 36)).heap.size = w.heap.size + 1 := by simp
    rwa [hz] at this
  have e2 : FrAt (((w.alloc (.cells #[.int .i64 p, .int .i64 x, .int .i64 o, .int .i64 n] 36)).alloc (.cells #[.int .i64 0, .int .i64 0, .int .i64 0, .int .i64 0] 36)).alloc (.cells #[.int .i64 0, .bool false, .int .i64 0, .int .u8 0, .int .u8 0, .int .u8 0, .int .u8 0, .int .u8 0, .int .u8 0, .int .u8 0, .int .u8 0] 24)) (w.heap.size + 2) 0 false 0 (fun _ => 0) := by
    have := frame_new ((w.alloc (.cells #[.int .i64 p, .int .i64 x, .int .i64 o, .int .i64 n] 36)).alloc (.cells #[.int .i64 0, .int .i64 0, .int .i64 0, .int .i64 0] 36)) 0 0 false (fun _ => 0)
    have hz : ((w.alloc (.cells #[.int .i64 p, .int .i64 x, .int .i64 o, .int .i64 n] 36)).alloc (.cells #[.int .i64 0, .int .i64 0, .int .i64 0, .int .i64 0] 36)).heap.size = w.heap.size + 2 := by simp
    rwa [hz] at this
  exact ⟨(heap_alloc_old _ _ _ (by simp; omega)).trans ((heap_alloc_old _ _ _ (by simp)).trans e0), (heap_alloc_old _ _ _ (by simp)).trans e1, e2, (h0.alloc (by simp) _).alloc (by simp; omega) _⟩
end
set_option maxRecDepth 100000 in
set_option maxHeartbeats 2000000 in
theorem rptick_no (p x o n now : Int) (w : World) (h : x < 0 ∨ now < x) :
    Calls Try.prog 14 #[.agg #[.int .i64 p, .int .i64 x, .int .i64 o, .int .i64 n], .int .i64 now] w fun e w' => e = .returned (.tuple #[.agg #[.int .i64 p, .int .i64 x, .int .i64 o, .int .i64 n], .agg #[.int .i64 0, .bool false, .int .i64 0, .int .u8 0, .int .u8 0, .int .u8 0, .int .u8 0, .int .u8 0, .int .u8 0, .int .u8 0, .int .u8 0], .bool false]) ∧ Below w.heap.size w w' := by
  have HN := Lib.hid (fun w => rtick_no p x now w h)
  have HS := Lib.hid (rtS_start (w := w) (p := p) (x := x) (o := o) (n := n))
  clear h
  go_enter Try.func14, Try.ntmps14
  go_upto_region 2 with (first
    | (go_at_call 32; refine (HN.out _).mono ?_; rintro e w1 ⟨rfl, hb1⟩; have HS1 := Lib.hid ((HS.out.below hb1).below ((Below.refl _ _).alloc (Nat.le_refl _) _ : Below w1.heap.size w1 (w1.alloc (.cells #[.int .i64 0, .int .i64 0] 34)))); have HG := Lib.hid (show w.heap.size + 2 < w1.heap.size from (HS.out.below hb1).lt); have HM1 := Lib.hid (show RmAt (w1.alloc (.cells #[.int .i64 0, .int .i64 0] 34)) w1.heap.size 0 0 from heap_alloc_new _ _); clear hb1)
    | (refine wpList_store_row rfl _ (.tmp 7) (.tmp 17) rfl w1.heap.size _ rfl rfl _ _ HM1.out info_rm rfl (one_rm _ _) ?_))
  have HS2 := Lib.hid (HS1.out.row HG.out #[.int .i64 p, .int .i64 x])
  clear HS1 HS HN HM1
  generalize (w1.alloc (.cells #[.int .i64 0, .int .i64 0] 34)).setRow w1.heap.size #[.int .i64 p, .int .i64 x] = w2 at *
  go_wp2_with (first
    | (refine wpList_load_row rfl _ (.tmp 2) rfl w.heap.size rfl _ _ _ _ HS2.out.a Try.underlying36 rfl info_rp ?_)
    | (refine wpList_store_row rfl _ (.tmp 4) (.tmp 21) rfl (w.heap.size + 1) _ rfl rfl _ _ HS2.out.m info_rp rfl (one_rp _ _ _ _) ?_)
    | (refine wpList_store_row rfl _ (.tmp 5) (.tmp 22) rfl (w.heap.size + 2) _ rfl rfl _ _ (HS2.out.f.row_other (by omega) _) info_frame rfl (one_frame 0 0 false (fun _ => 0)) ?_))
  exact bodyPost_ret (results_cell_cell_tmp_row rfl _ _ (w.heap.size + 1) (w.heap.size + 2) _ _ _ _ _ _ _ _ rfl ((HS2.out.m.row p x o n).row_of (by omega) _) Try.underlying36 rfl info_rp rfl ((HS2.out.f.row_other (show w.heap.size + 2 ≠ w.heap.size + 1 by omega) #[.int .i64 p, .int .i64 x, .int .i64 o, .int .i64 n]).row 0 0 false (fun _ => 0)) Try.underlying24 rfl info_frame) rfl ⟨rfl, below_setRow (below_setRow HS2.out.b (by omega) _) (by omega) _⟩
set_option maxRecDepth 100000 in
set_option maxHeartbeats 2000000 in
theorem rptick_yes (p x o n now I N C E q t : Int) (w : World) (h0 : 0 ≤ x) (h1 : x ≤ now) (hn1 : now ≤ 2147483647) (hp0 : 0 ≤ p) (hp1 : p ≤ 2147483647) (hq0 : 0 ≤ n) (hq1 : n ≤ 1000000)
    (hq : (o = 0 ∧ q = 0) ∨ (2 ≤ o ∧ o ≤ 240 ∧ q = n % o + 1)) (ht : dueE x p now = t)
    (he : ∀ w, Calls Try.prog 8 #[.int .i64 q, .int .i64 o] w fun e w' => e = .returned (.tuple #[.agg #[.int .i64 I, .bool false, .int .i64 N, .int .u8 C, .int .u8 0, .int .u8 0, .int .u8 0, .int .u8 0, .int .u8 0, .int .u8 0, .int .u8 0], .int .i64 E]) ∧ Below w.heap.size w w') :
    Calls Try.prog 14 #[.agg #[.int .i64 p, .int .i64 x, .int .i64 o, .int .i64 n], .int .i64 now] w fun e w' => e = .returned (.tuple #[.agg #[.int .i64 p, .int .i64 t, .int .i64 o, .int .i64 (n + 1)], .agg #[.int .i64 I, .bool false, .int .i64 N, .int .u8 C, .int .u8 0, .int .u8 0, .int .u8 0, .int .u8 0, .int .u8 0, .int .u8 0, .int .u8 0], .bool true]) ∧ Below w.heap.size w w' := by
  have hty := fun w => rtick_yes p x now w h0 h1 hn1 hp0 hp1
  rw [ht] at hty
  have HN := Lib.hid hty
  have HS := Lib.hid (rtS_start (w := w) (p := p) (x := x) (o := o) (n := n))
  have HE := Lib.hid he
  have e1 : IntKind.i64.wrap (n + 1) = n + 1 := IntWalk.i64_in _ (by omega)
  clear h0 h1 hn1 hp0 hp1 hty ht he
  go_enter Try.func14, Try.ntmps14
  go_upto_region 2 with (first
    | (go_at_call 32; refine (HN.out _).mono ?_; rintro e w1 ⟨rfl, hb1⟩; have HS1 := Lib.hid ((HS.out.below hb1).below ((Below.refl _ _).alloc (Nat.le_refl _) _ : Below w1.heap.size w1 (w1.alloc (.cells #[.int .i64 0, .int .i64 0] 34)))); have HG := Lib.hid (show w.heap.size + 2 < w1.heap.size from (HS.out.below hb1).lt); have HM1 := Lib.hid (show RmAt (w1.alloc (.cells #[.int .i64 0, .int .i64 0] 34)) w1.heap.size 0 0 from heap_alloc_new _ _); clear hb1)
    | (refine wpList_store_row rfl _ (.tmp 7) (.tmp 17) rfl w1.heap.size _ rfl rfl _ _ HM1.out info_rm rfl (one_rm _ _) ?_))
  have HS2 := Lib.hid (HS1.out.row HG.out #[.int .i64 p, .int .i64 t])
  have HM2 := Lib.hid (HM1.out.row p t)
  clear HS1 HS HN HM1
  generalize (w1.alloc (.cells #[.int .i64 0, .int .i64 0] 34)).setRow w1.heap.size #[.int .i64 p, .int .i64 t] = w2 at *
  generalize w1.heap.size = gm at *
  obtain ⟨a0, a1, a2, a3⟩ := HS2.out.a.cells
  obtain ⟨b0, b1⟩ := HM2.out.cells
  have f0 := HS2.out.a.frozen 0
  have f1 := HS2.out.a.frozen 1
  have f2 := HS2.out.a.frozen 2
  have f3 := HS2.out.a.frozen 3
  go_upto_region 6 with fail
  have HS3 := Lib.hid (show RtS w p t o n ((w2.setCell ⟨w.heap.size, 0, none⟩ (.int .i64 p)).setCell ⟨w.heap.size, 1, none⟩ (.int .i64 t)) from (HS2.out.setc 0 (.int .i64 p) (p' := p) (x' := x) (o' := o) (n' := n) rfl).setc 1 (.int .i64 t) rfl)
  clear a0 a1 a2 a3 b0 b1 f0 f1 f2 f3 HM2 HS2
  generalize ((w2.setCell ⟨w.heap.size, 0, none⟩ (.int .i64 p)).setCell ⟨w.heap.size, 1, none⟩ (.int .i64 t)) = w3 at *
  obtain ⟨a0, a1, a2, a3⟩ := HS3.out.a.cells
  have f3 := HS3.out.a.frozen 3
  have HS4 := Lib.hid (show RtS w p t o (n + 1) (w3.setCell ⟨w.heap.size, 3, none⟩ (.int .i64 (n + 1))) from HS3.out.setc 3 (.int .i64 (n + 1)) rfl)
  have HW : Hid (∀ Q : Prop, (o = 0 → q = 0 → Q) → (¬ o = 0 → 0 < o → n.tmod o + 1 = q → IntKind.i64.wrap (n.tmod o) = n.tmod o → IntKind.i64.wrap (n.tmod o + 1) = n.tmod o + 1 → Q) → Q) := Lib.hid (by
    intro Q hA hB
    rcases hq with ⟨h1, h2⟩ | ⟨h1, h2, h3⟩
    · exact hA h1 h2
    · have t1 := Int.emod_nonneg n (show o ≠ 0 by omega)
      have t2 := Int.emod_lt_of_pos n (show 0 < o by omega)
      have e1 : n.tmod o = n % o := Int.tmod_eq_emod_of_nonneg hq0
      exact hB (by omega) (by omega) (by omega) (IntWalk.i64_in _ (by omega)) (IntWalk.i64_in _ (by omega)))
  clear hq hq0 hq1
  refine HW.out _ (fun g1 g2 => ?_) (fun g1 g2 g3 g4 g5 => ?_)
  · clear HW
    subst g1 g2
    go_upto_region 9 with fail
    clear a0 a1 a2 a3 f3 HS3
    generalize w3.setCell ⟨w.heap.size, 3, none⟩ (.int .i64 (n + 1)) = w4 at *
    obtain ⟨a0, a1, a2, a3⟩ := HS4.out.a.cells
    go_upto_region 10 with (first
      | (go_at_call 8; refine (HE.out _).mono ?_; rintro e w5 ⟨rfl, hb5⟩; have HS5 := Lib.hid ((HS4.out.below hb5).below ((Below.refl _ _).alloc (Nat.le_refl _) _ : Below w5.heap.size w5 (w5.alloc (.cells #[.int .i64 0, .bool false, .int .i64 0, .int .u8 0, .int .u8 0, .int .u8 0, .int .u8 0, .int .u8 0, .int .u8 0, .int .u8 0, .int .u8 0] 24)))); have HG5 := Lib.hid (show w.heap.size + 2 < w5.heap.size from (HS4.out.below hb5).lt); have HX5 := Lib.hid (frame_new w5 0 0 false (fun _ => 0)); clear hb5 a0 a1 a2 a3)
      | (refine wpList_store_row rfl _ (.tmp 10) (.tmp 43) rfl w5.heap.size _ rfl rfl _ _ HX5.out info_frame rfl (one_frame I N false (dOf [C])) ?_))
    have HS6 := Lib.hid (HS5.out.row HG5.out #[.int .i64 I, .bool false, .int .i64 N, .int .u8 C, .int .u8 0, .int .u8 0, .int .u8 0, .int .u8 0, .int .u8 0, .int .u8 0, .int .u8 0])
    have HX6 := Lib.hid (show FrAt ((w5.alloc (.cells #[.int .i64 0, .bool false, .int .i64 0, .int .u8 0, .int .u8 0, .int .u8 0, .int .u8 0, .int .u8 0, .int .u8 0, .int .u8 0, .int .u8 0] 24)).setRow w5.heap.size #[.int .i64 I, .bool false, .int .i64 N, .int .u8 C, .int .u8 0, .int .u8 0, .int .u8 0, .int .u8 0, .int .u8 0, .int .u8 0, .int .u8 0]) w5.heap.size I false N (dOf [C]) from HX5.out.row I N false (dOf [C]))
    clear HS5 HX5 HS4
    generalize (w5.alloc (.cells #[.int .i64 0, .bool false, .int .i64 0, .int .u8 0, .int .u8 0, .int .u8 0, .int .u8 0, .int .u8 0, .int .u8 0, .int .u8 0, .int .u8 0] 24)).setRow w5.heap.size #[.int .i64 I, .bool false, .int .i64 N, .int .u8 C, .int .u8 0, .int .u8 0, .int .u8 0, .int .u8 0, .int .u8 0, .int .u8 0, .int .u8 0] = w6 at *
    generalize w5.heap.size = gx at *
    refine wp_region_last (fun x => (x.cell? ⟨w.heap.size, 0, none⟩ = some (.int .i64 p) ∧ x.cell? ⟨w.heap.size, 1, none⟩ = some (.int .i64 t) ∧ x.cell? ⟨w.heap.size, 2, none⟩ = some (.int .i64 0) ∧ x.cell? ⟨w.heap.size, 3, none⟩ = some (.int .i64 (n + 1))) ∧ x.cell? ⟨gx, 0, none⟩ = some (.int .i64 I) ∧ x.cell? ⟨gx, 1, none⟩ = some (.bool false) ∧ x.cell? ⟨gx, 2, none⟩ = some (.int .i64 N) ∧ x.cell? ⟨gx, 3, none⟩ = some (.int .u8 C) ∧ x.cell? ⟨gx, 4, none⟩ = some (.int .u8 0) ∧ x.cell? ⟨gx, 5, none⟩ = some (.int .u8 0) ∧ x.cell? ⟨gx, 6, none⟩ = some (.int .u8 0) ∧ x.cell? ⟨gx, 7, none⟩ = some (.int .u8 0) ∧ x.cell? ⟨gx, 8, none⟩ = some (.int .u8 0) ∧ x.cell? ⟨gx, 9, none⟩ = some (.int .u8 0) ∧ x.cell? ⟨gx, 10, none⟩ = some (.int .u8 0)) 4 (by kernel_rfl) ⟨HS6.out.a.cells, HX6.out.cells⟩ (fun hHeld => ?_)
    replace HS6 := Lib.hid (HS6.out.below (kD w6))
    replace HX6 : Hid (FrAt w6.drew gx I false N (dOf [C])) := HX6
    generalize w6.drew = w6 at *
    refine wpAnyL_take (i := 0) (v := .agg #[.int .i64 p, .int .i64 t, .int .i64 0, .int .i64 (n + 1)]) rfl (by kernel_rfl) (by kernel_rfl) (by kernel_rfl) (by kernel_rfl) (by kernel_rfl) (fun _ _ _ h => h) (Or.inl ⟨by rfl, ?_⟩) (by assumption) ?_
    · intro wq hSw; (try dsimp only at hSw); first | (go_simp; done) | (go_simp; with_reducible rfl) | with_reducible rfl
    try simp only [Act.put, List.setIfInBounds_toArray, List.set_cons_zero, List.set_cons_succ, List.getElem_toArray, List.getElem_cons_zero, List.getElem_cons_succ]
    refine wpAnyL_take (i := 1) (v := .agg #[.int .i64 I, .bool false, .int .i64 N, .int .u8 C, .int .u8 0, .int .u8 0, .int .u8 0, .int .u8 0, .int .u8 0, .int .u8 0, .int .u8 0]) rfl (by kernel_rfl) (by kernel_rfl) (by kernel_rfl) (by kernel_rfl) (by kernel_rfl) (fun _ _ _ h => h) (Or.inl ⟨by rfl, ?_⟩) (by assumption) ?_
    · intro wq hSw; (try dsimp only at hSw); first | (go_simp; done) | (go_simp; with_reducible rfl) | with_reducible rfl
    try simp only [Act.put, List.setIfInBounds_toArray, List.set_cons_zero, List.set_cons_succ, List.getElem_toArray, List.getElem_cons_zero, List.getElem_cons_succ]
    refine wpAnyL_ready (rs := [2]) (by kernel_rfl) (by simp) ?_
    refine (AllReadyL.cons rfl (fun K hK => ?_) AllReadyL.nil)
    refine Eq.mpr (if_pos (by kernel_rfl)) ?_
    refine wp_store_row 36 (.tmp 4) (.tmp 45) rfl (w.heap.size + 1) #[.int .i64 p, .int .i64 t, .int .i64 0, .int .i64 (n + 1)] rfl rfl _ _ HS6.out.m info_rp rfl (one_rp _ _ _ _) ?_
    have HM7 := Lib.hid (HS6.out.m.row p t 0 (n + 1))
    have HA7 := Lib.hid (HS6.out.a.row_of (show w.heap.size ≠ w.heap.size + 1 by omega) #[.int .i64 p, .int .i64 t, .int .i64 0, .int .i64 (n + 1)])
    have HF7 := Lib.hid (HS6.out.f.row_other (show w.heap.size + 2 ≠ w.heap.size + 1 by omega) #[.int .i64 p, .int .i64 t, .int .i64 0, .int .i64 (n + 1)])
    have HB7 := Lib.hid (below_setRow HS6.out.b (show w.heap.size ≤ w.heap.size + 1 by omega) #[.int .i64 p, .int .i64 t, .int .i64 0, .int .i64 (n + 1)])
    have HX7 := Lib.hid (HX6.out.row_other (show gx ≠ w.heap.size + 1 by have := HG5.out; omega) #[.int .i64 p, .int .i64 t, .int .i64 0, .int .i64 (n + 1)])
    refine hK.out _ _ ?_ (fun hHeld => ?_)
    · (try dsimp only); exact ⟨HA7.out.cells, HX7.out.cells⟩
    clear hK K HS6 HX6
    generalize w6.setRow (w.heap.size + 1) #[.int .i64 p, .int .i64 t, .int .i64 0, .int .i64 (n + 1)] = w7 at *
    refine wpAnyL_ready (rs := [3]) (by kernel_rfl) (by simp) ?_
    refine (AllReadyL.cons rfl (fun K hK => ?_) AllReadyL.nil)
    refine Eq.mpr (if_pos (by kernel_rfl)) ?_
    refine wp_store_row 24 (.tmp 5) (.tmp 46) rfl (w.heap.size + 2) #[.int .i64 I, .bool false, .int .i64 N, .int .u8 C, .int .u8 0, .int .u8 0, .int .u8 0, .int .u8 0, .int .u8 0, .int .u8 0, .int .u8 0] rfl rfl _ _ HF7.out info_frame rfl (one_frame I N false (dOf [C])) ?_
    have HM8 := Lib.hid (HM7.out.row_of (show w.heap.size + 1 ≠ w.heap.size + 2 by omega) #[.int .i64 I, .bool false, .int .i64 N, .int .u8 C, .int .u8 0, .int .u8 0, .int .u8 0, .int .u8 0, .int .u8 0, .int .u8 0, .int .u8 0])
    have HA8 := Lib.hid (HA7.out.row_of (show w.heap.size ≠ w.heap.size + 2 by omega) #[.int .i64 I, .bool false, .int .i64 N, .int .u8 C, .int .u8 0, .int .u8 0, .int .u8 0, .int .u8 0, .int .u8 0, .int .u8 0, .int .u8 0])
    have HF8 := Lib.hid (HF7.out.row I N false (dOf [C]))
    have HB8 := Lib.hid (below_setRow HB7.out (show w.heap.size ≤ w.heap.size + 2 by omega) #[.int .i64 I, .bool false, .int .i64 N, .int .u8 C, .int .u8 0, .int .u8 0, .int .u8 0, .int .u8 0, .int .u8 0, .int .u8 0, .int .u8 0])
    have HX8 := Lib.hid (HX7.out.row_other (show gx ≠ w.heap.size + 2 by have := HG5.out; omega) #[.int .i64 I, .bool false, .int .i64 N, .int .u8 C, .int .u8 0, .int .u8 0, .int .u8 0, .int .u8 0, .int .u8 0, .int .u8 0, .int .u8 0])
    refine hK.out _ _ ?_ (fun hHeld => ?_)
    · (try dsimp only); exact ⟨HA8.out.cells, HX8.out.cells⟩
    clear hK K
    refine wpAnyL_ready (rs := [4]) (by kernel_rfl) (by simp) ?_
    refine AllReadyL.last rfl (fun K hK => ?_)
    go_simp
    refine hK.out _ _ ?_
    clear hK K
    refine wpAnyL_done (by kernel_rfl) ?_ _
    clear hHeld
    go_simp
    go_wp2_with fail
    exact bodyPost_ret (results_cell_cell_tmp_row rfl _ _ (w.heap.size + 1) (w.heap.size + 2) _ _ _ _ _ _ _ _ rfl HM8.out Try.underlying36 rfl info_rp rfl HF8.out Try.underlying24 rfl info_frame) rfl ⟨rfl, HB8.out⟩
  · clear HW
    have HQ := Lib.hid g3
    clear g3
    go_upto_region 9 with fail
    generalize n.tmod o = m at *
    clear a0 a1 a2 a3 f3 HS3
    generalize w3.setCell ⟨w.heap.size, 3, none⟩ (.int .i64 (n + 1)) = w4 at *
    obtain ⟨a0, a1, a2, a3⟩ := HS4.out.a.cells
    have hq := HQ.out
    subst hq
    go_upto_region 10 with (first
      | (go_at_call 8; refine (HE.out _).mono ?_; rintro e w5 ⟨rfl, hb5⟩; have HS5 := Lib.hid ((HS4.out.below hb5).below ((Below.refl _ _).alloc (Nat.le_refl _) _ : Below w5.heap.size w5 (w5.alloc (.cells #[.int .i64 0, .bool false, .int .i64 0, .int .u8 0, .int .u8 0, .int .u8 0, .int .u8 0, .int .u8 0, .int .u8 0, .int .u8 0, .int .u8 0] 24)))); have HG5 := Lib.hid (show w.heap.size + 2 < w5.heap.size from (HS4.out.below hb5).lt); have HX5 := Lib.hid (frame_new w5 0 0 false (fun _ => 0)); clear hb5 a0 a1 a2 a3)
      | (refine wpList_store_row rfl _ (.tmp 10) (.tmp 43) rfl w5.heap.size _ rfl rfl _ _ HX5.out info_frame rfl (one_frame I N false (dOf [C])) ?_))
    have HS6 := Lib.hid (HS5.out.row HG5.out #[.int .i64 I, .bool false, .int .i64 N, .int .u8 C, .int .u8 0, .int .u8 0, .int .u8 0, .int .u8 0, .int .u8 0, .int .u8 0, .int .u8 0])
    have HX6 := Lib.hid (show FrAt ((w5.alloc (.cells #[.int .i64 0, .bool false, .int .i64 0, .int .u8 0, .int .u8 0, .int .u8 0, .int .u8 0, .int .u8 0, .int .u8 0, .int .u8 0, .int .u8 0] 24)).setRow w5.heap.size #[.int .i64 I, .bool false, .int .i64 N, .int .u8 C, .int .u8 0, .int .u8 0, .int .u8 0, .int .u8 0, .int .u8 0, .int .u8 0, .int .u8 0]) w5.heap.size I false N (dOf [C]) from HX5.out.row I N false (dOf [C]))
    clear HS5 HX5 HS4
    generalize (w5.alloc (.cells #[.int .i64 0, .bool false, .int .i64 0, .int .u8 0, .int .u8 0, .int .u8 0, .int .u8 0, .int .u8 0, .int .u8 0, .int .u8 0, .int .u8 0] 24)).setRow w5.heap.size #[.int .i64 I, .bool false, .int .i64 N, .int .u8 C, .int .u8 0, .int .u8 0, .int .u8 0, .int .u8 0, .int .u8 0, .int .u8 0, .int .u8 0] = w6 at *
    generalize w5.heap.size = gx at *
    refine wp_region_last (fun x => (x.cell? ⟨w.heap.size, 0, none⟩ = some (.int .i64 p) ∧ x.cell? ⟨w.heap.size, 1, none⟩ = some (.int .i64 t) ∧ x.cell? ⟨w.heap.size, 2, none⟩ = some (.int .i64 o) ∧ x.cell? ⟨w.heap.size, 3, none⟩ = some (.int .i64 (n + 1))) ∧ x.cell? ⟨gx, 0, none⟩ = some (.int .i64 I) ∧ x.cell? ⟨gx, 1, none⟩ = some (.bool false) ∧ x.cell? ⟨gx, 2, none⟩ = some (.int .i64 N) ∧ x.cell? ⟨gx, 3, none⟩ = some (.int .u8 C) ∧ x.cell? ⟨gx, 4, none⟩ = some (.int .u8 0) ∧ x.cell? ⟨gx, 5, none⟩ = some (.int .u8 0) ∧ x.cell? ⟨gx, 6, none⟩ = some (.int .u8 0) ∧ x.cell? ⟨gx, 7, none⟩ = some (.int .u8 0) ∧ x.cell? ⟨gx, 8, none⟩ = some (.int .u8 0) ∧ x.cell? ⟨gx, 9, none⟩ = some (.int .u8 0) ∧ x.cell? ⟨gx, 10, none⟩ = some (.int .u8 0)) 4 (by kernel_rfl) ⟨HS6.out.a.cells, HX6.out.cells⟩ (fun hHeld => ?_)
    replace HS6 := Lib.hid (HS6.out.below (kD w6))
    replace HX6 : Hid (FrAt w6.drew gx I false N (dOf [C])) := HX6
    generalize w6.drew = w6 at *
    refine wpAnyL_take (i := 0) (v := .agg #[.int .i64 p, .int .i64 t, .int .i64 o, .int .i64 (n + 1)]) rfl (by kernel_rfl) (by kernel_rfl) (by kernel_rfl) (by kernel_rfl) (by kernel_rfl) (fun _ _ _ h => h) (Or.inl ⟨by rfl, ?_⟩) (by assumption) ?_
    · intro wq hSw; (try dsimp only at hSw); first | (go_simp; done) | (go_simp; with_reducible rfl) | with_reducible rfl
    try simp only [Act.put, List.setIfInBounds_toArray, List.set_cons_zero, List.set_cons_succ, List.getElem_toArray, List.getElem_cons_zero, List.getElem_cons_succ]
    refine wpAnyL_take (i := 1) (v := .agg #[.int .i64 I, .bool false, .int .i64 N, .int .u8 C, .int .u8 0, .int .u8 0, .int .u8 0, .int .u8 0, .int .u8 0, .int .u8 0, .int .u8 0]) rfl (by kernel_rfl) (by kernel_rfl) (by kernel_rfl) (by kernel_rfl) (by kernel_rfl) (fun _ _ _ h => h) (Or.inl ⟨by rfl, ?_⟩) (by assumption) ?_
    · intro wq hSw; (try dsimp only at hSw); first | (go_simp; done) | (go_simp; with_reducible rfl) | with_reducible rfl
    try simp only [Act.put, List.setIfInBounds_toArray, List.set_cons_zero, List.set_cons_succ, List.getElem_toArray, List.getElem_cons_zero, List.getElem_cons_succ]
    refine wpAnyL_ready (rs := [2]) (by kernel_rfl) (by simp) ?_
    refine (AllReadyL.cons rfl (fun K hK => ?_) AllReadyL.nil)
    refine Eq.mpr (if_pos (by kernel_rfl)) ?_
    refine wp_store_row 36 (.tmp 4) (.tmp 45) rfl (w.heap.size + 1) #[.int .i64 p, .int .i64 t, .int .i64 o, .int .i64 (n + 1)] rfl rfl _ _ HS6.out.m info_rp rfl (one_rp _ _ _ _) ?_
    have HM7 := Lib.hid (HS6.out.m.row p t o (n + 1))
    have HA7 := Lib.hid (HS6.out.a.row_of (show w.heap.size ≠ w.heap.size + 1 by omega) #[.int .i64 p, .int .i64 t, .int .i64 o, .int .i64 (n + 1)])
    have HF7 := Lib.hid (HS6.out.f.row_other (show w.heap.size + 2 ≠ w.heap.size + 1 by omega) #[.int .i64 p, .int .i64 t, .int .i64 o, .int .i64 (n + 1)])
    have HB7 := Lib.hid (below_setRow HS6.out.b (show w.heap.size ≤ w.heap.size + 1 by omega) #[.int .i64 p, .int .i64 t, .int .i64 o, .int .i64 (n + 1)])
    have HX7 := Lib.hid (HX6.out.row_other (show gx ≠ w.heap.size + 1 by have := HG5.out; omega) #[.int .i64 p, .int .i64 t, .int .i64 o, .int .i64 (n + 1)])
    refine hK.out _ _ ?_ (fun hHeld => ?_)
    · (try dsimp only); exact ⟨HA7.out.cells, HX7.out.cells⟩
    clear hK K HS6 HX6
    generalize w6.setRow (w.heap.size + 1) #[.int .i64 p, .int .i64 t, .int .i64 o, .int .i64 (n + 1)] = w7 at *
    refine wpAnyL_ready (rs := [3]) (by kernel_rfl) (by simp) ?_
    refine (AllReadyL.cons rfl (fun K hK => ?_) AllReadyL.nil)
    refine Eq.mpr (if_pos (by kernel_rfl)) ?_
    refine wp_store_row 24 (.tmp 5) (.tmp 46) rfl (w.heap.size + 2) #[.int .i64 I, .bool false, .int .i64 N, .int .u8 C, .int .u8 0, .int .u8 0, .int .u8 0, .int .u8 0, .int .u8 0, .int .u8 0, .int .u8 0] rfl rfl _ _ HF7.out info_frame rfl (one_frame I N false (dOf [C])) ?_
    have HM8 := Lib.hid (HM7.out.row_of (show w.heap.size + 1 ≠ w.heap.size + 2 by omega) #[.int .i64 I, .bool false, .int .i64 N, .int .u8 C, .int .u8 0, .int .u8 0, .int .u8 0, .int .u8 0, .int .u8 0, .int .u8 0, .int .u8 0])
    have HA8 := Lib.hid (HA7.out.row_of (show w.heap.size ≠ w.heap.size + 2 by omega) #[.int .i64 I, .bool false, .int .i64 N, .int .u8 C, .int .u8 0, .int .u8 0, .int .u8 0, .int .u8 0, .int .u8 0, .int .u8 0, .int .u8 0])
    have HF8 := Lib.hid (HF7.out.row I N false (dOf [C]))
    have HB8 := Lib.hid (below_setRow HB7.out (show w.heap.size ≤ w.heap.size + 2 by omega) #[.int .i64 I, .bool false, .int .i64 N, .int .u8 C, .int .u8 0, .int .u8 0, .int .u8 0, .int .u8 0, .int .u8 0, .int .u8 0, .int .u8 0])
    have HX8 := Lib.hid (HX7.out.row_other (show gx ≠ w.heap.size + 2 by have := HG5.out; omega) #[.int .i64 I, .bool false, .int .i64 N, .int .u8 C, .int .u8 0, .int .u8 0, .int .u8 0, .int .u8 0, .int .u8 0, .int .u8 0, .int .u8 0])
    refine hK.out _ _ ?_ (fun hHeld => ?_)
    · (try dsimp only); exact ⟨HA8.out.cells, HX8.out.cells⟩
    clear hK K
    refine wpAnyL_ready (rs := [4]) (by kernel_rfl) (by simp) ?_
    refine AllReadyL.last rfl (fun K hK => ?_)
    go_simp
    refine hK.out _ _ ?_
    clear hK K
    refine wpAnyL_done (by kernel_rfl) ?_ _
    clear hHeld
    go_simp
    go_wp2_with fail
    exact bodyPost_ret (results_cell_cell_tmp_row rfl _ _ (w.heap.size + 1) (w.heap.size + 2) _ _ _ _ _ _ _ _ rfl HM8.out Try.underlying36 rfl info_rp rfl HF8.out Try.underlying24 rfl info_frame) rfl ⟨rfl, HB8.out⟩
end Go.Proofs.Ythofimkjemhnoaa
