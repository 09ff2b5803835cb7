/- FilterMeets, walked. -/
import Derived.Test.YtjofgomnnpeepaaGu
import Derived.Deep.RegionHeld3
import Derived.Deep.DeepCutAuto
namespace Go.Proofs.Ytjofgomnnpeepaa
open Go.RowKit Go.Sort

/-- A new block holds a filter. -/
structure NewAt (v : World) (k : Nat) (f : Int × Int) : Prop where
  lt : k < v.heap.size
  a : v.cell? ⟨k, 0, none⟩ = some (.int .i64 f.1)
  b : v.cell? ⟨k, 1, none⟩ = some (.int .i64 f.2)
theorem NewAt.alloc_ (x : World) (p q : Int) (t : TypeId) (k : Nat) (hk : x.heap.size = k) : NewAt (x.alloc (.cells #[.int .i64 p, .int .i64 q] t)) k (p, q) := by
  subst hk
  exact ⟨by simp, by rw [cell_of_row _ _ _ _ _ _ (heap_alloc_new x _)]; rfl, by rw [cell_of_row _ _ _ _ _ _ (heap_alloc_new x _)]; rfl⟩
theorem NewAt.below {v v' : World} {k : Nat} {f : Int × Int} (h : NewAt v k f) (hb : Below v.heap.size v v') : NewAt v' k f :=
  ⟨Nat.lt_of_lt_of_le h.lt hb.size, (hb.cell (p := ⟨k, 0, none⟩) h.lt).trans h.a, (hb.cell (p := ⟨k, 1, none⟩) h.lt).trans h.b⟩
theorem NewAt.old {v : World} {k : Nat} {f : Int × Int} (h : NewAt v k f) (o : Obj) : NewAt (v.alloc o) k f := h.below ((Below.refl _ _).alloc (Nat.le_refl _) _)
theorem NewAt.fils {v : World} {k : Nat} {f : Int × Int} (h : NewAt v k f) : Fils v v.heap.size (some ⟨k, 0, none⟩) 1 1 fun _ => f :=
  ⟨Nat.le_refl _, by simp [maxLen], fun _ => ⟨k, 0, rfl, h.lt, fun i hi => by
    obtain rfl : i = 0 := by omega
    exact ⟨h.a, h.b⟩⟩⟩
theorem kA {a v : World} (h : Below a.heap.size a v) (o : Obj) : Below a.heap.size a (v.alloc o) := h.alloc h.size o
theorem kB {a v v' : World} (h : Below a.heap.size a v) (hb : Below v.heap.size v v') : Below a.heap.size a v' := h.trans (hb.mono h.size)
theorem NewAt.drew {v : World} {k : Nat} {f : Int × Int} (h : NewAt v k f) : NewAt v.drew k f := ⟨h.lt, h.a, h.b⟩
theorem kE {a v : World} (h : Below a.heap.size a v) : Below a.heap.size a v.drew := below_drewN h 1
theorem kF {a v v' : World} (hb : Below v.heap.size v v') (h : Below a.heap.size a v) : Below a.heap.size a v' := kB h hb
theorem kD (a : World) : Below a.heap.size a a.drew := below_drewN (Below.refl _ _) 1

theorem NewAt.two (x : World) (f g : Int × Int) (t : TypeId) (k : Nat) (hk : x.heap.size = k) : Fils (x.alloc (.cells #[.int .i64 f.1, .int .i64 f.2, .int .i64 g.1, .int .i64 g.2] t)) (x.alloc (.cells #[.int .i64 f.1, .int .i64 f.2, .int .i64 g.1, .int .i64 g.2] t)).heap.size (some ⟨k, 0, none⟩) 2 2 (fun i => if i = 0 then f else g) := by
  subst hk
  refine ⟨Nat.le_refl _, by simp [maxLen], fun _ => ⟨_, 0, rfl, by simp, fun i hi => ?_⟩⟩
  rw [cell_of_row _ _ _ _ _ _ (heap_alloc_new x _), cell_of_row _ _ _ _ _ _ (heap_alloc_new x _)]
  match i, hi with
  | 0, _ => exact ⟨rfl, rfl⟩
  | 1, _ => exact ⟨rfl, rfl⟩
def twoF (f g : Int × Int) (i : Nat) : Int × Int := if i = 0 then f else g
/-! ### A region that draws, by hand: one operation taken first; one that is not wanted; one that comes up alone. -/
macro "h_take " i:num : tactic => `(tactic| (
  refine wpAnyH_take (i := $i) (v := ?_) rfl (by kernel_rfl) (by kernel_rfl) (by kernel_rfl) (fun _ _ _ h => h) (Or.inl ⟨by rfl, ?_⟩) (by assumption) ?_
  rotate_left 1
  · (intro w hSw; (try dsimp only at hSw); go_simp; try with_reducible rfl)
  try simp only [Act.put, List.setIfInBounds_toArray, List.set_cons_zero, List.set_cons_succ]))
macro "h_skip " i:num : tactic => `(tactic| (
  refine wpAnyH_take (i := $i) (v := undef) rfl (by kernel_rfl) (by kernel_rfl) (by kernel_rfl) (fun _ _ _ h => h) (Or.inr ⟨by rfl, rfl⟩) (by assumption) ?_
  try simp only [Act.put, List.setIfInBounds_toArray, List.set_cons_zero, List.set_cons_succ]))
macro "h_step " i:num " (" tac:tactic ")" " (" keep:tactic ")" : tactic => `(tactic| (
  refine wpAnyH_ready (rs := [$i]) (by kernel_rfl) (by simp) ?_
  refine AllReadyH.cons rfl (fun K hK => ?_) AllReadyH.nil
  $tac:tactic
  refine Shut.out hK _ _ ?_ (fun hHeld => ?_)
  · (try dsimp only); $keep:tactic
  clear hK K
  try simp only [Act.put, List.setIfInBounds_toArray, List.set_cons_zero, List.set_cons_succ]))
/-- What FilterMeets asks of two filters; P, Q: what they let pass. -/
structure Asked (fc fm gc gm : Int) (P Q : Nat → Bool) : Prop where
  pa : ∀ (v : World) A c, Fils v v.heap.size A 1 c (fun _ => (fc, fm)) → ∀ j : Nat, Calls Try.prog 9 #[.int .i64 (j : Int), .slice A 1 c] v fun e w' => e = .returned (.bool (P j)) ∧ Below v.heap.size v w'
  pb : ∀ (v : World) A c, Fils v v.heap.size A 1 c (fun _ => (gc, gm)) → ∀ j : Nat, Calls Try.prog 9 #[.int .i64 (j : Int), .slice A 1 c] v fun e w' => e = .returned (.bool (Q j)) ∧ Below v.heap.size v w'
  za : ∀ v, Calls Try.prog 14 #[.agg #[.int .i64 fc, .int .i64 fm]] v fun e w' => e = .returned (.int .i64 (cN P 2048 : Nat)) ∧ Below v.heap.size v w'
  zb : ∀ v, Calls Try.prog 14 #[.agg #[.int .i64 gc, .int .i64 gm]] v fun e w' => e = .returned (.int .i64 (cN Q 2048 : Nat)) ∧ Below v.heap.size v w'
  me : ∀ v, Calls Try.prog 15 #[.agg #[.int .i64 fc, .int .i64 fm], .agg #[.int .i64 gc, .int .i64 gm]] v fun e w' => e = .returned (.bool (decide (0 < cN (fun q => P q && Q q) 2048))) ∧ Below v.heap.size v w'
  co : ∀ (v : World) k, Fils v v.heap.size (some ⟨k, 0, none⟩) 2 2 (twoF (fc, fm) (gc, gm)) → Calls Try.prog 13 #[.slice (some ⟨k, 0, none⟩) 2 2] v fun e w' => e = .returned (.int .i64 (cN (fun q => P q || Q q) 2048 : Nat)) ∧ Below v.heap.size v w'
theorem asked (fc fm gc gm : Int) : ∃ P Q, Asked fc fm gc gm P Q := by
  obtain ⟨P, Q, hP, hQ⟩ : ∃ P Q : Nat → Bool, (∀ q : Nat, One (low fc) (low fm) (q : Int) = P q) ∧ (∀ q : Nat, One (low gc) (low gm) (q : Int) = Q q) := ⟨_, _, fun _ => rfl, fun _ => rfl⟩
  have hsa : cN P 2048 = 2 ^ pops 11 (2047 - low fm) := by rw [← one_size (low fc) (low fm) (low_lt fm)]; exact cN_congr fun q _ => (hP q).symm
  have hsb : cN Q 2048 = 2 ^ pops 11 (2047 - low gm) := by rw [← one_size (low gc) (low gm) (low_lt gm)]; exact cN_congr fun q _ => (hQ q).symm
  have hmt : meets (low fc) (low fm) (low gc) (low gm) = decide (0 < cN (fun q => P q && Q q) 2048) := by
    rw [meets_count _ _ _ _ (low_lt fm) (low_lt gm), cN_congr (Q := fun q => P q && Q q) fun q _ => by rw [hP, hQ]]
  refine ⟨P, Q, ?_, ?_, ?_, ?_, ?_, ?_⟩
  · intro v A c h j
    have := refpass_any v (j : Int) A 1 c _ h
    rw [any_one, hP] at this
    exact this
  · intro v A c h j
    have := refpass_any v (j : Int) A 1 c _ h
    rw [any_one, hQ] at this
    exact this
  · intro v; rw [hsa]; exact size_any fc fm v
  · intro v; rw [hsb]; exact size_any gc gm v
  · intro v
    rw [← hmt]
    exact (meet_any fc fm gc gm v).mono fun _ _ ⟨h, q, os, e⟩ => ⟨h, by subst e; exact below_gr v q os⟩
  · intro v k h
    have := count_any v _ 2 2 _ h
    rw [selL_count, cN_congr (Q := fun q => P q || Q q) fun q _ => by rw [anyF_succ, anyF_succ, anyF_zero, Bool.false_or]; show (One (low fc) (low fm) (q : Nat) || One (low gc) (low gm) (q : Nat)) = _; rw [hP, hQ]] at this
    exact this
/-- The two boxes of FilterMeets. -/
structure TwoF (w0 : World) (a b : Nat) (f g : Int × Int) : Prop where
  fa : NewAt w0 a f
  fb : NewAt w0 b g

set_option maxRecDepth 40000 in
set_option maxHeartbeats 4000000 in
theorem filterMeets_walk (fc fm gc gm : Int) (w : World) :
    Calls Try.prog 4 #[.agg #[.int .i64 fc, .int .i64 fm], .agg #[.int .i64 gc, .int .i64 gm]] w fun e w' => e = .returned (.bool true) ∧ Below w.heap.size w w' := by
  have hb0 : Below w.heap.size w ((w.alloc (.cells #[.int .i64 fc, .int .i64 fm] 36)).alloc (.cells #[.int .i64 gc, .int .i64 gm] 36)) := ((Below.refl _ _).alloc (Nat.le_refl _) _).alloc (by simp) _
  have hA : NewAt ((w.alloc (.cells #[.int .i64 fc, .int .i64 fm] 36)).alloc (.cells #[.int .i64 gc, .int .i64 gm] 36)) w.heap.size (fc, fm) := (NewAt.alloc_ w fc fm _ _ rfl).old _
  have hB : NewAt ((w.alloc (.cells #[.int .i64 fc, .int .i64 fm] 36)).alloc (.cells #[.int .i64 gc, .int .i64 gm] 36)) (w.heap.size + 1) (gc, gm) := NewAt.alloc_ _ gc gm _ _ (by simp)
  go_enter Try.func4, Try.ntmps4
  go_upto_region 1 with fail
  generalize (w.alloc (.cells #[.int .i64 fc, .int .i64 fm] 36)).alloc (.cells #[.int .i64 gc, .int .i64 gm] 36) = w0 at hb0 hA hB ⊢
  have hS : ∀ v, Below w0.heap.size w0 v → Below w0.heap.size w0 v ∧ v.cell? ⟨w.heap.size, 0, none⟩ = some (.int .i64 fc) ∧ v.cell? ⟨w.heap.size, 1, none⟩ = some (.int .i64 fm) ∧ v.cell? ⟨w.heap.size + 1, 0, none⟩ = some (.int .i64 gc) ∧ v.cell? ⟨w.heap.size + 1, 1, none⟩ = some (.int .i64 gm) := fun v h =>
    ⟨h, (hA.below h).a, (hA.below h).b, (hB.below h).a, (hB.below h).b⟩
  have hpl := fun v k f (h : NewAt v k f) => plain_any v (some ⟨k, 0, none⟩) 1 1 (fun _ => f) h.fils (by omega)
  have HS := Lib.hid hS
  have HP := Lib.hid hpl
  have HB0 := Lib.hid hb0
  clear hS hpl hb0 hA hB
  go_cut [5, 6] (fun s5 s6 wx => ∃ A1 c1 A2 c2, s5 = .slice A1 1 c1 ∧ s6 = .slice A2 1 c2 ∧ Fils wx wx.heap.size A1 1 c1 (fun _ => (fc, fm)) ∧ Fils wx wx.heap.size A2 1 c2 (fun _ => (gc, gm)) ∧ Below w0.heap.size w0 wx)
  case first =>
    go_region_held3 (fun w' => Below w0.heap.size w0 w' ∧ w'.cell? ⟨w.heap.size, 0, none⟩ = some (.int .i64 fc) ∧ w'.cell? ⟨w.heap.size, 1, none⟩ = some (.int .i64 fm) ∧ w'.cell? ⟨w.heap.size + 1, 0, none⟩ = some (.int .i64 gc) ∧ w'.cell? ⟨w.heap.size + 1, 1, none⟩ = some (.int .i64 gm))
      (first | exact HS.out _ (kD _) | exact HS.out _ (kE (kA (Below.refl _ _) _)) | exact HS.out _ (kE (kA (kA (Below.refl _ _) _) _)) | exact HS.out _ (by assumption) | exact HS.out _ (kA hq1 _))
      (first
        | (go_at_call 7
           refine (HP.out _ _ (fc, fm) (by first | exact (NewAt.alloc_ _ fc fm _ _ (by simp)).drew | exact ((NewAt.alloc_ _ fc fm _ _ (by simp)).old _).drew)).mono ?_
           rintro e w1 ⟨⟨A1, c1, rfl, hf1⟩, hb1⟩
           have hq1 : Below w0.heap.size w0 w1 := by first | exact kF hb1 (kE (kA (Below.refl _ _) _)) | exact kF hb1 (kE (kA (kA (Below.refl _ _) _) _)))
        | (go_at_call 7
           refine (HP.out _ _ (gc, gm) (by first | exact NewAt.alloc_ _ gc gm _ _ (by simp) | exact (NewAt.alloc_ _ gc gm _ _ (by simp)).drew.below hb1 | exact ((NewAt.alloc_ _ gc gm _ _ (by simp)).old _).drew.below hb1)).mono ?_
           rintro e w2 ⟨⟨A2, c2, rfl, hf2⟩, hb2⟩
           have hq2 : Below w0.heap.size w0 w2 := by first | exact kF hb2 hq1 | exact kF hb2 (kA hq1 _)
           have hf1' : Fils w2 w2.heap.size A1 1 c1 fun _ => (fc, fm) := by first | exact hf1.step hb2 | exact (hf1.step ((Below.refl _ _).alloc (Nat.le_refl _) _)).step hb2))
    all_goals (go_wp2_with fail; go_meet; exact ⟨A1, c1, A2, c2, rfl, rfl, hf1', hf2, hq2⟩)
  case rest =>
    obtain ⟨A1, c1, A2, c2, rfl, rfl, hf1, hf2, hbx⟩ := hcut
    have HF1 := Lib.hid hf1
    have HF2 := Lib.hid hf2
    have HBX := Lib.hid hbx
    clear hf1 hf2 hbx HP
    obtain ⟨P, Q, ha⟩ := asked fc fm gc gm
    have hbo := cN_both P Q 2048
    have HBO := Lib.hid hbo
    have HA := Lib.hid ha
    clear hbo ha
    go_wp2_with fail
    go_loopw [7, 8, 9, 10] (fun b n m i wr => ∃ j : Nat, j ≤ 2048 ∧ i = .int .i64 j ∧ b = .int .i64 (cN (fun q => P q && Q q) j : Nat) ∧ n = .int .i64 (cN P j : Nat) ∧ m = .int .i64 (cN Q j : Nat) ∧ Hid (Fils wr wr.heap.size A1 1 c1 (fun _ => (fc, fm))) ∧ Hid (Fils wr wr.heap.size A2 1 c2 (fun _ => (gc, gm))) ∧ Hid (Below w0.heap.size w0 wr)) (fun _ _ _ i _ => 2048 - (intOf i).toNat)
    case atStart => exact ⟨0, by omega, rfl, rfl, rfl, rfl, HF1, HF2, HBX⟩
    case round =>
      obtain ⟨j, hj, rfl, rfl, rfl, rfl, hf1, hf2, hb⟩ := hrel
      clear HF1 HF2 HBX
      by_cases hlt : j < 2048
      · have e1 : cN P (j + 1) = cN P j + (if P j then 1 else 0) := rfl
        have e2 : cN Q (j + 1) = cN Q j + (if Q j then 1 else 0) := rfl
        have e3 : cN (fun q => P q && Q q) (j + 1) = cN (fun q => P q && Q q) j + (if (P j && Q j) = true then 1 else 0) := rfl
        have l1 := cN_le P j
        have l2 := cN_le Q j
        have l3 := cN_le (fun q => P q && Q q) j
        have hpa := fun v h => HA.out.pa v A1 c1 h j
        have hpb := fun v h => HA.out.pb v A2 c2 h j
        generalize P j = p at e1 e3 hpa
        generalize Q j = q at e2 e3 hpb
        have E1 := Lib.hid e1
        have E2 := Lib.hid e2
        have E3 := Lib.hid e3
        have HPA := Lib.hid hpa
        have HPB := Lib.hid hpb
        clear e1 e2 e3 hpa hpb
        generalize cN P j = x at E1 l1 ⊢
        generalize cN Q j = y at E2 l2 ⊢
        generalize cN (fun q => P q && Q q) j = z at E3 l3 ⊢
        cases p <;> cases q <;>
          (go_wp2_with fail
           refine (HPA.out _ hf1.out).mono ?_
           rintro e w2 ⟨rfl, hb2⟩
           go_wp2_with fail
           refine (HPB.out _ (hf2.out.step hb2)).mono ?_
           rintro e w3 ⟨rfl, hb3⟩
           have hb23 := hb2.trans (hb3.mono hb2.size)
           have G1 := Lib.hid (hf1.out.step hb23)
           have G2 := Lib.hid (hf2.out.step hb23)
           have G3 := Lib.hid (kB hb.out hb23)
           clear hb2 hb3 hb23
           go_wp2_with fail
           refine ⟨⟨j + 1, by omega, by go_num, by rw [E3.out]; go_num, by rw [E1.out]; go_num, by rw [E2.out]; go_num, G1, G2, G3⟩, by simp [intOf]; omega⟩)
      · obtain rfl : j = 2048 := by omega
        have hza := HA.out.za
        have hzb := HA.out.zb
        have hme := HA.out.me
        have hco := HA.out.co
        have hbo := HBO.out
        have l1 := cN_le P 2048
        have l2 := cN_le Q 2048
        have l3 := cN_le (fun q => P q && Q q) 2048
        generalize cN P 2048 = x at hza hbo l1 ⊢
        generalize cN Q 2048 = y at hzb hbo l2 ⊢
        generalize cN (fun q => P q && Q q) 2048 = z at hme hbo l3 ⊢
        generalize cN (fun q => P q || Q q) 2048 = u at hco hbo
        have hs1 : IntKind.i64.wrap ((x : Int) + (y : Int)) = (x : Int) + (y : Int) := IntWalk.i64_in _ (by omega)
        have hs2 : IntKind.i64.wrap ((x : Int) + (y : Int) - (z : Int)) = (u : Int) := by rw [IntWalk.i64_in _ (by omega)]; omega
        have t1 : ((x : Int) != (x : Int)) = false := by simp
        have t2 : ((y : Int) != (y : Int)) = false := by simp
        have HZA := Lib.hid hza
        have HZB := Lib.hid hzb
        have HCO := Lib.hid hco
        have HU := Lib.hid hbo
        have HFIN := Lib.hid hb.out
        clear hza hzb hco HA HBO hbo hf1 hf2
        by_cases hz : 0 < z
        · have hd : decide (0 < z) = true := by simp [hz]
          rw [hd] at hme
          have HME := Lib.hid hme
          have hz' : (0 : Int) < (z : Int) := by omega
          clear hme hd
          obtain ⟨_, k1, k2, k3, k4⟩ := HS.out _ HFIN.out
          go_wp2_with fail
          refine (HZA.out _).mono ?_
          rintro e v1 ⟨rfl, hb1⟩
          have hq1 := kB HFIN.out hb1
          obtain ⟨_, m1, m2, m3, m4⟩ := HS.out _ hq1
          clear k1 k2 k3 k4 hb1
          go_wp2_with fail
          refine (HZB.out _).mono ?_
          rintro e v2 ⟨rfl, hb2⟩
          have hq2 := kB hq1 hb2
          obtain ⟨_, k1, k2, k3, k4⟩ := HS.out _ hq2
          clear m1 m2 m3 m4 hb2
          go_wp2_with fail
          refine (HME.out _).mono ?_
          rintro e v3 ⟨rfl, hb3⟩
          have hq3 := kB hq2 hb3
          clear k1 k2 k3 k4 hb3
          go_wp2_with fail
          refine wp_region_held_drew (S := (fun w' => Below w0.heap.size w0 w' ∧ w'.cell? ⟨w.heap.size, 0, none⟩ = some (.int .i64 fc) ∧ w'.cell? ⟨w.heap.size, 1, none⟩ = some (.int .i64 fm) ∧ w'.cell? ⟨w.heap.size + 1, 0, none⟩ = some (.int .i64 gc) ∧ w'.cell? ⟨w.heap.size + 1, 1, none⟩ = some (.int .i64 gm))) (by kernel_rfl) (HS.out _ (kE hq3)) (fun hHeld => ?_)
          h_step 0 ((go_simp; go_at_call 12; refine (live_any _).mono ?_; rintro e v4 ⟨rfl, hb4⟩; have hq4 := kF hb4 (kE hq3))) (exact HS.out _ hq4)
          h_take 1
          h_take 2
          h_take 3
          h_take 6
          h_take 7
          h_take 8
          h_take 9
          h_take 10
          h_step 4 (go_simp) (exact HS.out _ (kA hq4 _))
          h_step 5 ((go_simp; go_at_call 13; refine (HCO.out _ _ (NewAt.two v4 (fc, fm) (gc, gm) _ _ (by simp))).mono ?_; rintro e v5 ⟨rfl, hb5⟩; have hq5 := kF hb5 (kA hq4 _))) (exact HS.out _ hq5)
          h_take 11
          h_take 12
          h_take 13
          h_take 14
          h_take 15
          h_step 16 ((go_simp; go_at_call 15; refine (HME.out _).mono ?_; rintro e v6 ⟨rfl, hb6⟩; have hq6 := kF hb6 hq5)) (exact HS.out _ hq6)
          h_take 17
          h_skip 18
          h_skip 19
          h_skip 22
          h_skip 24
          h_step 20 (go_simp) (exact HS.out _ hq6)
          h_step 21 (go_simp) (exact HS.out _ hq6)
          h_step 23 (go_simp) (exact HS.out _ hq6)
          h_step 25 (go_simp) (exact HS.out _ hq6)
          h_skip 26
          h_skip 27
          h_take 28
          h_take 29
          h_take 30
          refine wpAnyH_done (by kernel_rfl) ?_ _
          go_wp2_with fail
          exact bodyPost_ret (results_tmp rfl _ _ _) rfl ⟨rfl, HB0.out.trans (hq6.mono HB0.out.size)⟩
        · have hd : decide (0 < z) = false := by simp [hz]
          rw [hd] at hme
          have HME := Lib.hid hme
          have hz' : ¬ (0 : Int) < (z : Int) := by omega
          have hs3 : ((u : Int) == (x : Int) + (y : Int)) = true := by have := HU.out; simp; omega
          clear hme hd
          obtain ⟨_, k1, k2, k3, k4⟩ := HS.out _ HFIN.out
          go_wp2_with fail
          refine (HZA.out _).mono ?_
          rintro e v1 ⟨rfl, hb1⟩
          have hq1 := kB HFIN.out hb1
          obtain ⟨_, m1, m2, m3, m4⟩ := HS.out _ hq1
          clear k1 k2 k3 k4 hb1
          go_wp2_with fail
          refine (HZB.out _).mono ?_
          rintro e v2 ⟨rfl, hb2⟩
          have hq2 := kB hq1 hb2
          obtain ⟨_, k1, k2, k3, k4⟩ := HS.out _ hq2
          clear m1 m2 m3 m4 hb2
          go_wp2_with fail
          refine (HME.out _).mono ?_
          rintro e v3 ⟨rfl, hb3⟩
          have hq3 := kB hq2 hb3
          clear k1 k2 k3 k4 hb3
          go_wp2_with fail
          go_region_held3 (fun w' => Below w0.heap.size w0 w' ∧ w'.cell? ⟨w.heap.size, 0, none⟩ = some (.int .i64 fc) ∧ w'.cell? ⟨w.heap.size, 1, none⟩ = some (.int .i64 fm) ∧ w'.cell? ⟨w.heap.size + 1, 0, none⟩ = some (.int .i64 gc) ∧ w'.cell? ⟨w.heap.size + 1, 1, none⟩ = some (.int .i64 gm))
            (first | exact HS.out _ (kE hq3) | exact HS.out _ (by assumption) | exact HS.out _ (kA hq4 _) | exact HS.out _ (kA hq6 _))
            (first
              | (go_at_call 12
                 refine (live_any _).mono ?_
                 rintro e v4 ⟨rfl, hb4⟩
                 have hq4 := kF hb4 (kE hq3))
              | (go_at_call 13
                 refine (HCO.out _ _ (NewAt.two v4 (fc, fm) (gc, gm) _ _ (by simp))).mono ?_
                 rintro e v5 ⟨rfl, hb5⟩
                 have hq5 := kF hb5 (kA hq4 _))
              | (go_at_call 15
                 refine (HME.out _).mono ?_
                 rintro e v6 ⟨rfl, hb6⟩
                 have hq6 := kF hb6 hq5)
              | (go_at_call 13
                 refine (HCO.out _ _ (NewAt.two v6 (fc, fm) (gc, gm) _ _ (by simp))).mono ?_
                 rintro e v7 ⟨rfl, hb7⟩
                 have hq7 := kF hb7 (kA hq6 _))
              | (go_at_call 14
                 refine (HZA.out _).mono ?_
                 rintro e v8 ⟨rfl, hb8⟩
                 have hq8 := kF hb8 hq7)
              | (go_at_call 14
                 refine (HZB.out _).mono ?_
                 rintro e v9 ⟨rfl, hb9⟩
                 have hq9 := kF hb9 hq8))
          go_wp2_with fail
          exact bodyPost_ret (results_tmp rfl _ _ _) rfl ⟨rfl, HB0.out.trans (hq9.mono HB0.out.size)⟩
end Go.Proofs.Ytjofgomnnpeepaa
