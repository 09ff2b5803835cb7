/- What told answers of timers beside the document's rows. -/
import Derived.Test.YtbabohioeeandaaUi
import Derived.Deep.RegionHeld3
namespace Go.Proofs.Ytbabohioeeandaa
open Go.RowKit Go.Shelf
attribute [local go_sem] Oper.semAt_some
set_option linter.unusedSimpArgs false
set_option linter.unusedVariables false

theorem run_equalIn_func_nil' {P : Program} (w : World) (d : Nat) (t : TypeId) {x1 x2 : Array TypeId} {x3 : Bool} (h : P.underlying t = some (.func x1 x2 x3)) (f : Fn) (cap lb : Array Value) : (Op.equalIn (d + 1) t (.func f cap lb) .nilFunc).run P w = .ok false w := by
  simp [Op.equalIn, run_underlying h]
theorem run_eql_func_nil' {P : Program} (w : World) (t : TypeId) {x1 x2 : Array TypeId} {x3 : Bool} (h : P.underlying t = some (.func x1 x2 x3)) (f : Fn) (cap lb : Array Value) : (binOp .eql t (.func f cap lb) .nilFunc).run P w = .ok (.bool false) w := by
  simp only [binOp]
  simp [Op.equal, Op.maxDepth, run_equalIn_func_nil' w 9999 t h f cap lb]
theorem eql_told' (w : World) (g : Nat) : (binOp .eql 55 (.func (Fn.func 40) #[] #[.pointer (some ⟨g, 0, none⟩)]) .nilFunc).run Try.prog w = .ok (.bool false) w := run_eql_func_nil' w _ Try.underlying55 _ _ _
theorem pre_fit {T pre : List (Int × Int)} (h : pre <+: T) (x : Int × Int) : pre ++ [x] <+: T ↔ T[pre.length]? = some x := by
  obtain ⟨r, rfl⟩ := h
  rw [List.getElem?_append_right (Nat.le_refl _), Nat.sub_self]
  constructor
  · rintro ⟨s, hs⟩
    rw [List.append_assoc] at hs
    have hs := List.append_cancel_left hs
    subst hs; rfl
  · intro hx
    cases r with
    | nil => simp at hx
    | cons y r =>
      simp only [List.getElem?_cons_zero, Option.some.injEq] at hx
      subst hx
      exact ⟨r, by simp⟩
theorem heap_own1 {β : Type} (k Bn : Nat) (o : Obj) (h : k < Bn) : OwnFrom Bn (fun (_ : β) W => W.heap[k]? = some o) := fun s W W' row hs hg hr => (hg.block k (Array.getElem?_eq_some_iff.1 hs).1 (fun e => by have := (hr k e.symm).1; omega)).trans hs
/-- What a round of told finds. -/
structure ToB (S : Nat) (W : World) (v : Value) (n : Int) : Prop where
  r : W.heap[S]? = some (.cells #[v] 25 (0, 0))
  b : W.heap[S + 1]? = some (.cells #[.bool false] 4 (0, 0))
  n : W.heap[S + 2]? = some (.cells #[.int .i64 n] 3 (0, 0))
def ToI (w : World) (v : Value) (T : List (Int × Int)) (pre : List (Int × Int)) (W : World) : Prop := (ToB w.heap.size W v pre.length ∧ pre <+: T) ∧ Below w.heap.size w W
def ToX (T : List (Int × Int)) (_ : Code) (pre : List (Int × Int)) (_ : World) : Prop := ¬ pre <+: T
theorem ToI_own (w : World) (v : Value) (T : List (Int × Int)) (Bn : Nat) (h1 : w.heap.size + 2 < Bn) : OwnFrom Bn (ToI w v T) :=
  OwnFrom.and (OwnFrom.and (fun s W W' row hs hg hr => ⟨heap_own1 (β := Unit) w.heap.size Bn _ (by omega) () W W' row hs.r hg hr, heap_own1 (β := Unit) (w.heap.size + 1) Bn _ (by omega) () W W' row hs.b hg hr, heap_own1 (β := Unit) (w.heap.size + 2) Bn _ (by omega) () W W' row hs.n hg hr⟩) (ownFrom_pure _ _)) (ownFrom_below (Nat.le_refl _) (by omega))
theorem heap_other (W : World) (a : Addr) (v : Value) (k : Nat) (h : ¬ k = a.block) : (W.setCell a v).heap[k]? = W.heap[k]? := Below.heap_setCell W a v k h
def ToA (g : Nat) (B : Nat) (v : Value) (S : Nat) (x : Int × Int) : Act := { tmps := #[.pointer (some ⟨g, 0, none⟩), v, undef, .pointer (some ⟨S, 0, none⟩), .pointer (some ⟨S + 1, 0, none⟩), .pointer (some ⟨S + 1 + 1, 0, none⟩), .func (Fn.func 40) #[] #[.pointer (some ⟨B, 0, none⟩)], .int .i64 x.1, .int .i64 x.2, .pointer (some ⟨g, 0, none⟩), .func (Fn.func 40) #[] #[.pointer (some ⟨B, 0, none⟩)], .func (Fn.func 40) #[] #[.pointer (some ⟨B, 0, none⟩)], .bool false, .func (Fn.func 40) #[] #[.pointer (some ⟨B, 0, none⟩)], .int .i64 x.1, .int .i64 x.2, undef, undef, undef, undef, undef, undef, undef, undef, undef, undef, undef, undef, undef, undef, undef, undef, undef, undef, undef, undef], defers := [] }
set_option maxRecDepth 100000 in
set_option maxHeartbeats 4000000 in
theorem told_in (w : World) (bs g s : Nat) (L T : List (Int × Int)) (v u : Value) (h : TmI w bs g s L T v u) (base : Nat) (vr : Value) (hrow : w.ownsRow base 44 2 vr L.length (fl eI eI L)) (hT : L.length ≤ 900) :
    CallsIn Fence.wide 9 Try.prog 18 #[.pointer (some ⟨g, 0, none⟩), vr] w fun e w' => e = .returned (.bool true) ∧ Below w.heap.size w w' := by
  obtain ⟨va, vc, rfl⟩ := own_slice hrow
  have HR := Lib.hid hrow
  have HT := Lib.hid h
  have HTL := Lib.hid (fun n (hn : 1 ≤ n) gb W (hW : TmI W bs g s L T v u) hb => tall_stopsI n hn gb bs g s L T v u W hb hW (by omega))
  obtain ⟨N, hN⟩ : ∃ N, L.length = N := ⟨_, rfl⟩
  rw [hN] at HR HTL hT ⊢
  have HN := Lib.hid hN
  clear hrow hN h
  have hb0 : Below w.heap.size w (((w.alloc (.cells #[.slice va N vc] 25)).alloc (.cells #[.bool false] 4)).alloc (.cells #[.int .i64 0] 3)) := (((Below.refl _ _).alloc (Nat.le_refl _) _).alloc (by simp) _).alloc (by simp; omega) _
  have hsz : (((w.alloc (.cells #[.slice va N vc] 25)).alloc (.cells #[.bool false] 4)).alloc (.cells #[.int .i64 0] 3)).heap.size = w.heap.size + 3 := by simp
  have hbx : ToB w.heap.size (((w.alloc (.cells #[.slice va N vc] 25)).alloc (.cells #[.bool false] 4)).alloc (.cells #[.int .i64 0] 3)) (.slice va N vc) 0 := by
    have h2 := heap_alloc_new ((w.alloc (.cells #[.slice va N vc] 25)).alloc (.cells #[.bool false] 4)) (.cells #[.int .i64 0] 3)
    rw [show ((w.alloc (.cells #[.slice va N vc] 25)).alloc (.cells #[.bool false] 4)).heap.size = w.heap.size + 2 by simp] at h2
    exact ⟨(heap_alloc_old _ _ _ (by simp; omega)).trans (heap_alloc2_old w _ _), (heap_alloc_old _ _ _ (by simp)).trans (heap_alloc2_new w _ _), h2⟩
  refine callsIn_of_wp_marks Try.func18 rfl trivial ?_ rfl
  simp only [Try.ntmps18, List.size_toArray, List.length_cons, List.length_nil, Nat.reduceAdd, Nat.reduceSub, Array.replicate_succ, Array.replicate_zero, List.push_toArray, List.append_toArray, List.nil_append, List.cons_append]
  have HB0 := Lib.hid hb0
  have HS0 := Lib.hid hsz
  have HX0 := Lib.hid hbx
  have heq := eql_told'
  clear hb0 hsz hbx
  gi_wp2_with fail
  generalize ((w.alloc (.cells #[.slice va N vc] 25)).alloc (.cells #[.bool false] 4)).alloc (.cells #[.int .i64 0] 3) = V at *
  refine ⟨trivial, ?_⟩
  refine (callsIn_wide.2 (tall_anyI _ _)).mono ?_
  rintro e w2 ⟨rfl, rfl⟩
  have hb8 : Below V.heap.size V (V.alloc (.cells #[.pointer (some ⟨g, 0, none⟩)] 23)) := (Below.refl _ _).alloc (Nat.le_refl _) _
  have HB8 := Lib.hid (HB0.out.trans (hb8.mono HB0.out.size))
  have HP8 := Lib.hid (show (V.alloc (.cells #[.pointer (some ⟨g, 0, none⟩)] 23)).heap[V.heap.size]? = some (.cells #[.pointer (some ⟨g, 0, none⟩)] 23 (0, 0)) from heap_alloc_new V _)
  have HX8 : Hid (ToB w.heap.size (V.alloc (.cells #[.pointer (some ⟨g, 0, none⟩)] 23)) (.slice va N vc) 0) := Lib.hid ⟨(hb8.block _ (by rw [HS0.out]; omega)).trans HX0.out.r, (hb8.block _ (by rw [HS0.out]; omega)).trans HX0.out.b, (hb8.block _ (by rw [HS0.out]; omega)).trans HX0.out.n⟩
  have HZ8 := Lib.hid (show (V.alloc (.cells #[.pointer (some ⟨g, 0, none⟩)] 23)).heap.size = w.heap.size + 4 by simp; rw [HS0.out])
  clear hb8
  gi_wp2_with fail
  generalize V.alloc (.cells #[.pointer (some ⟨g, 0, none⟩)] 23) = W2 at HB8 HP8 HX8 HZ8 ⊢
  have hst := HTL.out 8 (by omega) V.heap.size W2 (HT.out.below HB8.out) HP8.out
  have hI : ToI w (.slice va N vc) L [] W2 := ⟨⟨HX8.out, List.nil_prefix⟩, HB8.out⟩
  refine wpIn_rangeFunc_ownG rfl (by omega) (gf := 40) (lb := #[.pointer (some ⟨V.heap.size, 0, none⟩)]) rfl trivial (enters_of Try.func40 (by kernel_rfl) rfl)
    hst kpt_t (fun W l o o' _ ho hc _ => kpt_put ho hc) (Below.refl _ _) (fun _ => rfl)
    (ToI w (.slice va N vc) L) (ToX L) (ToI_own w _ L _ (by rw [HZ8.out]; omega)) (fun _ => ownFrom_pure _ _) hI
    (ToA g V.heap.size (.slice va N vc) w.heap.size) ?assign ?body ?done ?stop
  case assign =>
    rintro lp ⟨xk, xv⟩ X K hK
    dsimp only [encTI, ToA] at hK ⊢
    gi_wp2
    exact hK
  case body =>
    rintro lp pre ⟨xk, xv⟩ X ⟨⟨hbx, hfit⟩, hbw⟩ hpN
    have hfx := pre_fit hfit (xk, xv)
    obtain ⟨⟨yk, yv⟩, hy⟩ : ∃ y, L[pre.length]? = some y := ⟨_, List.getElem?_eq_getElem (by rw [HN.out]; exact hpN)⟩
    obtain ⟨b, rfl, hg, hnc, hm, d0, d1⟩ := rows_at (own_below HR.out hbw) hy
    simp only [maxLen] at hm
    rw [hy] at hfx
    simp only at d0 d1
    have hln : (pre ++ [((xk, xv) : Int × Int)]).length = pre.length + 1 := by simp
    have c5 : X.cell? ⟨w.heap.size + 1 + 1, 0, none⟩ = some (.int .i64 pre.length) := by rw [cell_of_row _ _ _ _ _ _ hbx.n]; rfl
    have f5 : X.frozen? ⟨w.heap.size + 1 + 1, 0, none⟩ = false := frozen_of_row _ _ _ _ _ hbx.n
    have c4 : X.cell? ⟨w.heap.size + 1, 0, none⟩ = some (.bool false) := by rw [cell_of_row _ _ _ _ _ _ hbx.b]; rfl
    have f4 : X.frozen? ⟨w.heap.size + 1, 0, none⟩ = false := frozen_of_row _ _ _ _ _ hbx.b
    have c3 : X.cell? ⟨w.heap.size, 0, none⟩ = some (.slice (some ⟨b, 0, none⟩) N vc) := by rw [cell_of_row _ _ _ _ _ _ hbx.r]; rfl
    have k4 := fun v => (KeepsOthers.setCell X ⟨w.heap.size + 1, 0, none⟩ v).from W2.heap.size
    have K4 := Lib.hid k4
    have HFX := Lib.hid hfx
    have HLN := Lib.hid hln
    have HBX := Lib.hid hbx
    have HBW := Lib.hid hbw
    have hpI : (pre.length : Int) < (N : Int) := by omega
    clear hfx hln hbx k4 hy hbw
    dsimp only [ToA]
    by_cases h1 : yk = xk
    · subst h1
      by_cases h3 : yv = xv
      · subst h3
        gi_wp2
        refine ⟨(KeepsOthers.setCell _ _ _).from _, kpt_set HBX.out.n (by decide) 0 _, ⟨⟨?_, HFX.out.2 (by first | trivial | rfl)⟩, HBW.out.setCell (p := ⟨w.heap.size + 1 + 1, 0, none⟩) (by simp; omega) _⟩⟩
        have hbx := HBX.out
        rw [HLN.out]
        exact ⟨(heap_other _ _ _ _ (by simp; omega)).trans hbx.r, (heap_other _ _ _ _ (by simp)).trans hbx.b, by rw [show (((pre.length + 1 : Nat)) : Int) = (pre.length : Int) + 1 by omega]; exact one_set hbx.n _⟩
      · have H3 := Lib.hid h3
        have t3 : (yv == xv) = false := by simpa using h3
        clear h3
        gi_wp2
        exact ⟨K4.out _, fun h => H3.out (by have := HFX.out.1 h; simp at this; exact this)⟩
    · have H1 := Lib.hid h1
      have t1 : (yk == xk) = false := by simpa using h1
      clear h1
      gi_wp2
      exact ⟨K4.out _, fun h => H1.out (by have := HFX.out.1 h; simp at this; exact this.1)⟩
  case stop =>
    rintro D cc pre X hD hSp hX hK
    exact absurd hSp hX
  case done =>
    rintro D ys X hD rfl ⟨⟨hbx, _⟩, hbw⟩ hK
    rw [HN.out] at hbx
    have c5 : X.cell? ⟨w.heap.size + 1 + 1, 0, none⟩ = some (.int .i64 N) := by rw [cell_of_row _ _ _ _ _ _ hbx.n]; rfl
    have c4 : X.cell? ⟨w.heap.size + 1, 0, none⟩ = some (.bool false) := by rw [cell_of_row _ _ _ _ _ _ hbx.b]; rfl
    have f4 : X.frozen? ⟨w.heap.size + 1, 0, none⟩ = false := frozen_of_row _ _ _ _ _ hbx.b
    have c3 : X.cell? ⟨w.heap.size, 0, none⟩ = some (.slice va N vc) := by rw [cell_of_row _ _ _ _ _ _ hbx.r]; rfl
    have hDw : w.heap.size + 2 < D := by have := HZ8.out; omega
    have hend : Below w.heap.size w ((X.setCell ⟨w.heap.size + 1, 0, none⟩ (.bool true)).putObj D (.deferred none)) := (hbw.setCell (p := ⟨w.heap.size + 1, 0, none⟩) (by simp) _).grown (grownBy_putObj' _ D _) (by simp; exact hbw.size) (fun k e => by cases e; omega)
    have hKS : ∀ v, (X.setCell ⟨w.heap.size + 1, 0, none⟩ v).heap[D]? = some (.deferred (some [])) := fun v => (heap_other _ _ _ _ (by simp; omega)).trans hK
    have hcE : ((X.setCell ⟨w.heap.size + 1, 0, none⟩ (.bool true)).putObj D (.deferred none)).cell? ⟨w.heap.size + 1, 0, none⟩ = some (.bool true) := by
      have hg := grownBy_putObj' (X.setCell ⟨w.heap.size + 1, 0, none⟩ (.bool true)) D (.deferred none)
      rw [cell_of_row _ _ _ _ _ _ ((hg.block (w.heap.size + 1) (by simp; have := (Array.getElem?_eq_some_iff.1 hbx.b).1; exact this) (by simp; omega)).trans (one_set hbx.b (.bool true)))]; rfl
    have HE := Lib.hid hend
    have HKS := Lib.hid hKS
    have HC := Lib.hid hcE
    clear hKS hcE hend hbx hbw hK
    gi_wp2
    refine ⟨by simp, .inl ⟨_, _, rfl, run_takeDeferred (HKS.out _), ?_⟩⟩
    refine ⟨.bool true, ?_, rfl, HE.out⟩
    simp [results, Try.f18, go_sem, HC.out]
theorem told_any {w0 w : World} {g : Nat} {L T : List (Int × Int)} (h : TimAt w0 g L T w) (base : Nat) (vr : Value) (hrow : w.ownsRow base 44 2 vr L.length (fl eI eI L)) (hT : L.length ≤ 900) :
    Calls Try.prog 18 #[.pointer (some ⟨g, 0, none⟩), vr] w fun e w' => e = .returned (.bool true) ∧ Below w.heap.size w w' := by
  obtain ⟨⟨s, v, u, h1, hs⟩, hg, hb⟩ := h
  exact callsIn_wide.1 (told_in w _ g s L T v u h1 base vr hrow hT)
end Go.Proofs.Ytbabohioeeandaa
