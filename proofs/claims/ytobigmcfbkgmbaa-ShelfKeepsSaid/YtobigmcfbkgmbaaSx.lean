/- What told answers of what an iterator hands out. -/
import Derived.Test.YtobigmcfbkgmbaaSw
namespace Go.Proofs.Ytobigmcfbkgmbaa
open Go.RowKit Go.Shelf
attribute [local go_sem] Oper.semAt_some

theorem pre_fit {T pre : List (Int × Int)} (h : pre <+: T) (x : Int × Int) : pre ++ [x] <+: T ↔ T[pre.length]? = some x := by
  obtain ⟨r, rfl⟩ := h
  rw [List.getElem?_append_right (Nat.le_refl _), Nat.sub_self]
  constructor
  · rintro ⟨s, hs⟩
    rw [List.append_assoc] at hs
    have hs := List.append_cancel_left hs
    subst hs; rfl
  · intro hx
    cases r with
    | nil => simp at hx
    | cons y r =>
      simp only [List.getElem?_cons_zero, Option.some.injEq] at hx
      subst hx
      exact ⟨r, by simp⟩
/-- What a round of told finds. -/
structure ToB (S : Nat) (W : World) (v : Value) (n : Int) : Prop where
  r : W.heap[S]? = some (.cells #[v] 24 (0, 0))
  b : W.heap[S + 1]? = some (.cells #[.bool false] 4 (0, 0))
  n : W.heap[S + 2]? = some (.cells #[.int .i64 n] 3 (0, 0))
def ToI (w : World) (v : Value) (T : List (Int × Int)) (pre : List (Int × Int)) (W : World) : Prop := (ToB w.heap.size W v pre.length ∧ pre <+: T) ∧ Below w.heap.size w W
def ToX (T : List (Int × Int)) (_ : Code) (pre : List (Int × Int)) (_ : World) : Prop := ¬ pre <+: T
theorem ToI_own (w : World) (v : Value) (T : List (Int × Int)) (Bn : Nat) (h1 : w.heap.size + 2 < Bn) : OwnFrom Bn (ToI w v T) :=
  OwnFrom.and (OwnFrom.and (fun s W W' row hs hg hr => ⟨own_heap (β := Unit) w.heap.size Bn _ (by omega) () W W' row hs.r hg hr, own_heap (β := Unit) (w.heap.size + 1) Bn _ (by omega) () W W' row hs.b hg hr, own_heap (β := Unit) (w.heap.size + 2) Bn _ (by omega) () W W' row hs.n hg hr⟩) (ownFrom_pure _ _)) (ownFrom_below (Nat.le_refl _) (by omega))
theorem loc_none : Loc 0 (fun _ => none) := fun _ _ _ => rfl
theorem heap_other (W : World) (a : Addr) (v : Value) (k : Nat) (h : ¬ k = a.block) : (W.setCell a v).heap[k]? = W.heap[k]? := Below.heap_setCell W a v k h
def ToA (gf : Nat) (lb : Array Value) (v : Value) (S : Nat) (x : Int × Int) : Act := { tmps := #[.func (Fn.func gf) #[] lb, v, undef, .pointer (some ⟨S, 0, none⟩), .pointer (some ⟨S + 1, 0, none⟩), .pointer (some ⟨S + 1 + 1, 0, none⟩), .int .i64 x.1, .int .i64 x.2, .func (Fn.func gf) #[] lb, .int .i64 x.1, .int .i64 x.2, undef, undef, undef, undef, undef, undef, undef, undef, undef, undef, undef, undef, undef, undef, undef, undef, undef, undef, undef, undef], defers := [] }
set_option maxRecDepth 100000 in
set_option maxHeartbeats 4000000 in
theorem told_in (gf : Nat) (lb : Array Value) (eg : ∀ args w, (callFunc gf args).run Try.prog w = .ok (.enter gf args) w) (T : List (Int × Int)) (w : World) (base : Nat) (v : Value) (hrow : w.ownsRow base 44 2 v T.length (fl eI eI T)) (hT : T.length ≤ 1000)
    (hseq : ∀ w', Below w.heap.size w w' → w.heap.size + 2 < w'.heap.size → SeqL 8 Try.prog gf lb encP (Kq (fun k => k = w.heap.size + 2) (fun _ => none)) (fun ys => ys = T) (fun pre => pre <+: T) T.length w') :
    CallsIn Fence.wide 9 Try.prog 8 #[.func (Fn.func gf) #[] lb, v] w fun e w' => e = .returned (.bool true) ∧ Below w.heap.size w w' := by
  obtain ⟨va, vc, rfl⟩ := own_slice hrow
  have HR := Lib.hid hrow
  obtain ⟨N, hN⟩ : ∃ N, T.length = N := ⟨_, rfl⟩
  rw [hN] at hseq HR hT ⊢
  have HN := Lib.hid hN
  clear hrow hN
  have hb0 : Below w.heap.size w (((w.alloc (.cells #[.slice va N vc] 24)).alloc (.cells #[.bool false] 4)).alloc (.cells #[.int .i64 0] 3)) := (((Below.refl _ _).alloc (Nat.le_refl _) _).alloc (by simp) _).alloc (by simp; omega) _
  have hsz : (((w.alloc (.cells #[.slice va N vc] 24)).alloc (.cells #[.bool false] 4)).alloc (.cells #[.int .i64 0] 3)).heap.size = w.heap.size + 3 := by simp
  have hbx : ToB w.heap.size (((w.alloc (.cells #[.slice va N vc] 24)).alloc (.cells #[.bool false] 4)).alloc (.cells #[.int .i64 0] 3)) (.slice va N vc) 0 := by
    have h2 := heap_alloc_new ((w.alloc (.cells #[.slice va N vc] 24)).alloc (.cells #[.bool false] 4)) (.cells #[.int .i64 0] 3)
    rw [show ((w.alloc (.cells #[.slice va N vc] 24)).alloc (.cells #[.bool false] 4)).heap.size = w.heap.size + 2 by simp] at h2
    exact ⟨(heap_alloc_old _ _ _ (by simp; omega)).trans (heap_alloc2_old w _ _), (heap_alloc_old _ _ _ (by simp)).trans (heap_alloc2_new w _ _), h2⟩
  refine callsIn_of_wp_marks Try.func8 rfl trivial ?_ rfl
  simp only [Try.ntmps8, List.size_toArray, List.length_cons, List.length_nil, Nat.reduceAdd, Nat.reduceSub, Array.replicate_succ, Array.replicate_zero, List.push_toArray, List.append_toArray, List.nil_append, List.cons_append]
  have HB0 := Lib.hid hb0
  have HS0 := Lib.hid hsz
  have HX0 := Lib.hid hbx
  clear hb0 hsz hbx
  gi_wp2_with fail
  generalize ((w.alloc (.cells #[.slice va N vc] 24)).alloc (.cells #[.bool false] 4)).alloc (.cells #[.int .i64 0] 3) = V at *
  have hs0 := HS0.out
  refine range_L (by omega) (gf := gf) (lb := lb) rfl eg (hseq V HB0.out (by omega)) kq_t (fun X k o o' hk ho hc _ => kq_put loc_none (Nat.zero_le _) ho hc) (Below.refl _ _) (fun _ => rfl)
    (ToI w (.slice va N vc) T) (ToX T) (ToI_own w _ T _ (by omega)) (fun _ => ownFrom_pure _ _) ⟨⟨HX0.out, List.nil_prefix⟩, HB0.out⟩ (ToA gf lb (.slice va N vc) w.heap.size) ?assign ?body ?done ?stop
  case assign =>
    rintro lp ⟨xk, xv⟩ X K hK
    dsimp only [encP, ToA] at hK ⊢
    gi_wp2
    exact hK
  case body =>
    rintro lp pre ⟨xk, xv⟩ X ⟨⟨hbx, hfit⟩, hbw⟩ hpN
    have hfx := pre_fit hfit (xk, xv)
    obtain ⟨⟨yk, yv⟩, hy⟩ : ∃ y, T[pre.length]? = some y := ⟨_, List.getElem?_eq_getElem (by rw [HN.out]; exact hpN)⟩
    obtain ⟨g, rfl, hg, hnc, hm, d0, d1⟩ := rows_at (own_below HR.out hbw) hy
    simp only [maxLen] at hm
    rw [hy] at hfx
    simp only at d0 d1
    have hln : (pre ++ [((xk, xv) : Int × Int)]).length = pre.length + 1 := by simp
    have c5 : X.cell? ⟨w.heap.size + 1 + 1, 0, none⟩ = some (.int .i64 pre.length) := by rw [cell_of_row _ _ _ _ _ _ hbx.n]; rfl
    have f5 : X.frozen? ⟨w.heap.size + 1 + 1, 0, none⟩ = false := frozen_of_row _ _ _ _ _ hbx.n
    have c4 : X.cell? ⟨w.heap.size + 1, 0, none⟩ = some (.bool false) := by rw [cell_of_row _ _ _ _ _ _ hbx.b]; rfl
    have f4 : X.frozen? ⟨w.heap.size + 1, 0, none⟩ = false := frozen_of_row _ _ _ _ _ hbx.b
    have c3 : X.cell? ⟨w.heap.size, 0, none⟩ = some (.slice (some ⟨g, 0, none⟩) N vc) := by rw [cell_of_row _ _ _ _ _ _ hbx.r]; rfl
    have k4 := fun v => (KeepsOthers.setCell X ⟨w.heap.size + 1, 0, none⟩ v).from V.heap.size
    have K4 := Lib.hid k4
    have HFX := Lib.hid hfx
    have HLN := Lib.hid hln
    have HBX := Lib.hid hbx
    have HBW := Lib.hid hbw
    have hpI : (pre.length : Int) < (N : Int) := by omega
    clear hfx hln hbx k4 hy hbw
    dsimp only [ToA]
    by_cases h1 : yk = xk
    · subst h1
      by_cases h3 : yv = xv
      · subst h3
        gi_wp2
        refine ⟨(KeepsOthers.setCell _ _ _).from _, ⟨by simp, fun k cs t fr hk hF _ => heap_other _ _ _ _ hF, .inl rfl⟩, ⟨⟨?_, HFX.out.2 (by first | trivial | rfl)⟩, HBW.out.setCell (p := ⟨w.heap.size + 1 + 1, 0, none⟩) (by simp; omega) _⟩⟩
        have hbx := HBX.out
        rw [HLN.out]
        exact ⟨(heap_other _ _ _ _ (by simp; omega)).trans hbx.r, (heap_other _ _ _ _ (by simp)).trans hbx.b, by rw [show (((pre.length + 1 : Nat)) : Int) = (pre.length : Int) + 1 by omega]; exact one_set hbx.n _⟩
      · have H3 := Lib.hid h3
        have t3 : (yv == xv) = false := by simpa using h3
        clear h3
        gi_wp2
        exact ⟨K4.out _, fun h => H3.out (by have := HFX.out.1 h; simp at this; exact this)⟩
    · have H1 := Lib.hid h1
      have t1 : (yk == xk) = false := by simpa using h1
      clear h1
      gi_wp2
      exact ⟨K4.out _, fun h => H1.out (by have := HFX.out.1 h; simp at this; exact this.1)⟩
  case stop =>
    rintro D cc pre X hD hSp hX hK
    exact absurd hSp hX
  case done =>
    rintro D ys X hD rfl ⟨⟨hbx, _⟩, hbw⟩ hK
    rw [HN.out] at hbx
    have c5 : X.cell? ⟨w.heap.size + 1 + 1, 0, none⟩ = some (.int .i64 N) := by rw [cell_of_row _ _ _ _ _ _ hbx.n]; rfl
    have c4 : X.cell? ⟨w.heap.size + 1, 0, none⟩ = some (.bool false) := by rw [cell_of_row _ _ _ _ _ _ hbx.b]; rfl
    have f4 : X.frozen? ⟨w.heap.size + 1, 0, none⟩ = false := frozen_of_row _ _ _ _ _ hbx.b
    have c3 : X.cell? ⟨w.heap.size, 0, none⟩ = some (.slice va N vc) := by rw [cell_of_row _ _ _ _ _ _ hbx.r]; rfl
    have hDw : w.heap.size + 2 < D := by omega
    have hend : Below w.heap.size w ((X.setCell ⟨w.heap.size + 1, 0, none⟩ (.bool true)).putObj D (.deferred none)) := (hbw.setCell (p := ⟨w.heap.size + 1, 0, none⟩) (by simp) _).grown (grownBy_putObj' _ D _) (by simp; exact hbw.size) (fun k e => by cases e; omega)
    have hKS : ∀ v, (X.setCell ⟨w.heap.size + 1, 0, none⟩ v).heap[D]? = some (.deferred (some [])) := fun v => (heap_other _ _ _ _ (by simp; omega)).trans hK
    have hcE : ((X.setCell ⟨w.heap.size + 1, 0, none⟩ (.bool true)).putObj D (.deferred none)).cell? ⟨w.heap.size + 1, 0, none⟩ = some (.bool true) := by
      have hg := grownBy_putObj' (X.setCell ⟨w.heap.size + 1, 0, none⟩ (.bool true)) D (.deferred none)
      rw [cell_of_row _ _ _ _ _ _ ((hg.block (w.heap.size + 1) (by simp; have := (Array.getElem?_eq_some_iff.1 hbx.b).1; exact this) (by simp; omega)).trans (one_set hbx.b (.bool true)))]; rfl
    have HE := Lib.hid hend
    have HKS := Lib.hid hKS
    have HC := Lib.hid hcE
    clear hKS hcE hend hbx hbw hK
    gi_wp2
    refine ⟨by simp, .inl ⟨_, _, rfl, run_takeDeferred (HKS.out _), ?_⟩⟩
    refine ⟨.bool true, ?_, rfl, HE.out⟩
    simp [results, Try.f8, go_sem, HC.out]
end Go.Proofs.Ytobigmcfbkgmbaa
