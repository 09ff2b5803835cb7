/- behind: an entry, and some that are alike. -/
import Derived.Test.YtgaoplbocjadaaaYArF
import Derived.Test.YtgaoplbocjadaaaYDRl
import Derived.Test.YtgaoplbocjadaaaYDc
namespace Go.Proofs.Ytgaoplbocjadaaa
open Go.RowKit
set_option linter.unusedSimpArgs false
set_option linter.unusedVariables false
theorem info_specE : (Try.prog.info? 75).map (fun i => (i.zero, i.size, i.bytes)) = some (some (.agg #[.int .i64 0, .int .i64 0, .int .i64 0, .int .i64 0]), 4, 32) := by kernel_rfl
theorem spF_one (l : List Sp) : ∀ v ∈ spF l, v.oneCell' = true := by
  intro v hv
  obtain ⟨s, hs, hv⟩ := List.mem_flatten.1 hv
  obtain ⟨x, _, rfl⟩ := List.mem_map.1 hs
  exact spC_one x v hv
theorem spF_len (m : List Sp) : (spF m).length = m.length * 4 := by
  induction m with
  | nil => rfl
  | cons x m ih => simp [spF, spC] at ih ⊢; omega
theorem SpAt.cells {w : World} {base g n c : Nat} {l : List Sp} (h : SpAt w base (.slice (some ⟨g, 0, none⟩) n c) l) : ∀ j u, (spF l)[j]? = some u → w.cell? ((⟨g, 0, none⟩ : Addr).add j) = some u := fun j u hu => by
  have hj : j < l.length * 4 := by rw [← spF_len]; exact (List.getElem?_eq_some_iff.1 hu).1
  rcases h.2 with ⟨ev, _⟩ | ⟨b, cap, cur, ev, hb, hg, h1, h2, h3, h4⟩
  · cases ev
  · cases ev
    rw [add_plainR, Nat.zero_add]
    have := own_cell h hj
    rw [this]; exact hu
def Two4 (w : World) (H : Nat) (k a lo hi k2 a2 lo2 hi2 : Int) : Prop := Spec4 w H k a lo hi ∧ Spec4 w (H + 1) k2 a2 lo2 hi2
theorem Spec4.cells {w : World} {g : Nat} {k a lo hi : Int} (h : Spec4 w g k a lo hi) : w.cell? ⟨g, 0, none⟩ = some (.int .i64 k) ∧ w.cell? ⟨g, 1, none⟩ = some (.int .i64 a) ∧ w.cell? ⟨g, 2, none⟩ = some (.int .i64 lo) ∧ w.cell? ⟨g, 3, none⟩ = some (.int .i64 hi) := by
  refine ⟨?_, ?_, ?_, ?_⟩ <;> (rw [cell_of_row _ _ _ _ _ _ h]; rfl)
theorem Spec4.below {w w' : World} {g : Nat} {k a lo hi : Int} (h : Spec4 w g k a lo hi) (hb : Below w.heap.size w w') : Spec4 w' g k a lo hi := (hb.block _ (Array.getElem?_eq_some_iff.1 h).1).trans h
theorem behind_end {w : World} {base : Nat} {v : Value} {x y : Sp} {n : Nat} (h : w.ownsRow base 75 4 v (1 + n) (spF [x] ++ spF (List.replicate n y))) : SpAt w base v (x :: List.replicate n y) := by
  have e : spF (x :: List.replicate n y) = spF [x] ++ spF (List.replicate n y) := by simp [spF]
  unfold SpAt
  rw [e, List.length_cons, List.length_replicate, Nat.add_comm n 1]
  exact h
set_option maxRecDepth 100000 in
set_option maxHeartbeats 8000000 in
theorem behind_any (w : World) (n : Nat) (k a lo hi k2 a2 lo2 hi2 : Int) (hn : n = 8 ∨ n = 4) :
    Calls Try.prog 125 #[.agg #[.int .i64 k, .int .i64 a, .int .i64 lo, .int .i64 hi], .agg #[.int .i64 k2, .int .i64 a2, .int .i64 lo2, .int .i64 hi2], .int .i64 (n : Nat)] w fun e w' => ∃ v, e = .returned v ∧ SpAt w' w.heap.size v ((k, a, lo, hi) :: List.replicate n (k2, a2, lo2, hi2)) ∧ Below w.heap.size w w' := by
  have hb0 : Below w.heap.size w ((w.alloc (.cells #[.int .i64 k, .int .i64 a, .int .i64 lo, .int .i64 hi] 75)).alloc (.cells #[.int .i64 k2, .int .i64 a2, .int .i64 lo2, .int .i64 hi2] 75)) := ((Below.refl _ _).alloc (Nat.le_refl _) _).alloc (by simp) _
  have hp0 : Spec4 ((w.alloc (.cells #[.int .i64 k, .int .i64 a, .int .i64 lo, .int .i64 hi] 75)).alloc (.cells #[.int .i64 k2, .int .i64 a2, .int .i64 lo2, .int .i64 hi2] 75)) w.heap.size k a lo hi := heap_alloc2_old w _ _
  have hq0 : Spec4 ((w.alloc (.cells #[.int .i64 k, .int .i64 a, .int .i64 lo, .int .i64 hi] 75)).alloc (.cells #[.int .i64 k2, .int .i64 a2, .int .i64 lo2, .int .i64 hi2] 75)) (w.heap.size + 1) k2 a2 lo2 hi2 := heap_alloc2_new w _ _
  have hs0 : ((w.alloc (.cells #[.int .i64 k, .int .i64 a, .int .i64 lo, .int .i64 hi] 75)).alloc (.cells #[.int .i64 k2, .int .i64 a2, .int .i64 lo2, .int .i64 hi2] 75)).heap.size = w.heap.size + 2 := by simp
  obtain ⟨i0, hi0, hz0', hz1', hz2'⟩ := info_parts info_specE
  have HI := Lib.hid hi0
  have hn1 : 4 ≤ n ∧ n ≤ 8 := by omega
  have HN := Lib.hid hn
  clear hi0 hn
  go_enter Try.func125, Try.ntmps125
  go_wp2_with fail
  generalize ((w.alloc (.cells #[.int .i64 k, .int .i64 a, .int .i64 lo, .int .i64 hi] 75)).alloc (.cells #[.int .i64 k2, .int .i64 a2, .int .i64 lo2, .int .i64 hi2] 75)) = w2 at hb0 hp0 hq0 hs0 ⊢
  have HB2 := Lib.hid hb0
  have HP2 := Lib.hid hp0
  have HQ2 := Lib.hid hq0
  have HS2 := Lib.hid hs0
  have hS : ∀ x, Below w2.heap.size w2 x → x.cell? ⟨w.heap.size, 0, none⟩ = some (.int .i64 k) ∧ x.cell? ⟨w.heap.size, 1, none⟩ = some (.int .i64 a) ∧ x.cell? ⟨w.heap.size, 2, none⟩ = some (.int .i64 lo) ∧ x.cell? ⟨w.heap.size, 3, none⟩ = some (.int .i64 hi) ∧ x.cell? ⟨w.heap.size + 1, 0, none⟩ = some (.int .i64 k2) ∧ x.cell? ⟨w.heap.size + 1, 1, none⟩ = some (.int .i64 a2) ∧ x.cell? ⟨w.heap.size + 1, 2, none⟩ = some (.int .i64 lo2) ∧ x.cell? ⟨w.heap.size + 1, 3, none⟩ = some (.int .i64 hi2) := fun x hx =>
    have h1 := (HP2.out.below hx).cells
    have h2 := (HQ2.out.below hx).cells
    ⟨h1.1, h1.2.1, h1.2.2.1, h1.2.2.2, h2.1, h2.2.1, h2.2.2.1, h2.2.2.2⟩
  have HS := Lib.hid hS
  clear hS hb0 hp0 hq0 hs0
  refine wp_region_last (fun x => x.cell? ⟨w.heap.size, 0, none⟩ = some (.int .i64 k) ∧ x.cell? ⟨w.heap.size, 1, none⟩ = some (.int .i64 a) ∧ x.cell? ⟨w.heap.size, 2, none⟩ = some (.int .i64 lo) ∧ x.cell? ⟨w.heap.size, 3, none⟩ = some (.int .i64 hi) ∧ x.cell? ⟨w.heap.size + 1, 0, none⟩ = some (.int .i64 k2) ∧ x.cell? ⟨w.heap.size + 1, 1, none⟩ = some (.int .i64 a2) ∧ x.cell? ⟨w.heap.size + 1, 2, none⟩ = some (.int .i64 lo2) ∧ x.cell? ⟨w.heap.size + 1, 3, none⟩ = some (.int .i64 hi2)) 7 (by kernel_rfl) (HS.out _ (kD _)) (fun hHeld => ?_)
  refine wpAnyL_take (i := 0) (v := ?_) rfl (by kernel_rfl) (by kernel_rfl) (by kernel_rfl) (by kernel_rfl) (by kernel_rfl) (fun _ _ _ h => h) (Or.inl ⟨by rfl, ?_⟩) (by assumption) ?_
  rotate_left
  · intro wq hSw; (try dsimp only at hSw); first | (go_simp; done) | (go_simp; with_reducible rfl) | with_reducible rfl
  try simp only [Act.put, List.setIfInBounds_toArray, List.set_cons_zero, List.set_cons_succ]
  refine wpAnyL_take (i := 2) (v := ?_) rfl (by kernel_rfl) (by kernel_rfl) (by kernel_rfl) (by kernel_rfl) (by kernel_rfl) (fun _ _ _ h => h) (Or.inl ⟨by rfl, ?_⟩) (by assumption) ?_
  rotate_left
  · intro wq hSw; (try dsimp only at hSw); first | (go_simp; done) | (go_simp; with_reducible rfl) | with_reducible rfl
  try simp only [Act.put, List.setIfInBounds_toArray, List.set_cons_zero, List.set_cons_succ]
  refine wpAnyL_take (i := 4) (v := ?_) rfl (by kernel_rfl) (by kernel_rfl) (by kernel_rfl) (by kernel_rfl) (by kernel_rfl) (fun _ _ _ h => h) (Or.inl ⟨by rfl, ?_⟩) (by assumption) ?_
  rotate_left
  · intro wq hSw; (try dsimp only at hSw); first | (go_simp; done) | (go_simp; with_reducible rfl) | with_reducible rfl
  try simp only [Act.put, List.setIfInBounds_toArray, List.set_cons_zero, List.set_cons_succ]
  have HBx0 := Lib.hid (kD w2)
  generalize w2.drew = x0 at *
  refine wpAnyL_ready (rs := [1, 3]) (by kernel_rfl) (by simp) ?_
  refine (AllReadyL.cons rfl (fun K hK => ?_) (AllReadyL.cons rfl (fun K hK => ?_) AllReadyL.nil))
  · skip
    go_simp
    have HBx1 := Lib.hid (kA HBx0.out (.cells #[.int .i64 k, .int .i64 a, .int .i64 lo, .int .i64 hi] 75))
    refine hK.out _ _ ?_ (fun hHeld => ?_)
    · (try dsimp only); exact HS.out _ HBx1.out
    clear hK K
    have HN8 : Hid ((x0.alloc (.cells #[.int .i64 k, .int .i64 a, .int .i64 lo, .int .i64 hi] 75)).heap[x0.heap.size]? = some (.cells #[.int .i64 k, .int .i64 a, .int .i64 lo, .int .i64 hi] 75 (0, 0))) := Lib.hid (heap_alloc_new x0 _)
    have HO8 : Hid (SpAt (x0.alloc (.cells #[.int .i64 k, .int .i64 a, .int .i64 lo, .int .i64 hi] 75)) w2.heap.size (.slice (some ⟨x0.heap.size, 0, none⟩) 1 1) [(k, a, lo, hi)]) := Lib.hid ((SpAt.new x0 [(k, a, lo, hi)] (by simp) (by simp)).mono HBx0.out.size)
    have hba : Below x0.heap.size x0 (x0.alloc (.cells #[.int .i64 k, .int .i64 a, .int .i64 lo, .int .i64 hi] 75)) := (Below.refl _ _).alloc (Nat.le_refl _) _
    clear hba
    generalize x0.alloc (.cells #[.int .i64 k, .int .i64 a, .int .i64 lo, .int .i64 hi] 75) = x1 at *
    generalize x0.heap.size = b8 at *
    refine wpAnyL_ready (rs := [3]) (by kernel_rfl) (by simp) ?_
    refine (AllReadyL.cons rfl (fun K hK => ?_) AllReadyL.nil)
    go_simp
    have HBx2 := Lib.hid (kA HBx1.out (.cells #[.int .i64 k2, .int .i64 a2, .int .i64 lo2, .int .i64 hi2] 75))
    refine hK.out _ _ ?_ (fun hHeld => ?_)
    · (try dsimp only); exact HS.out _ HBx2.out
    clear hK K
    have HN10 : Hid ((x1.alloc (.cells #[.int .i64 k2, .int .i64 a2, .int .i64 lo2, .int .i64 hi2] 75)).heap[x1.heap.size]? = some (.cells #[.int .i64 k2, .int .i64 a2, .int .i64 lo2, .int .i64 hi2] 75 (0, 0))) := Lib.hid (heap_alloc_new x1 _)
    have hba : Below x1.heap.size x1 (x1.alloc (.cells #[.int .i64 k2, .int .i64 a2, .int .i64 lo2, .int .i64 hi2] 75)) := (Below.refl _ _).alloc (Nat.le_refl _) _
    have HO8 := Lib.hid (HO8.out.below hba)
    clear hba
    generalize x1.alloc (.cells #[.int .i64 k2, .int .i64 a2, .int .i64 lo2, .int .i64 hi2] 75) = x2 at *
    generalize x1.heap.size = b10 at *
    refine wpAnyL_ready (rs := [5]) (by kernel_rfl) (by simp) ?_
    refine (AllReadyL.cons rfl (fun K hK => ?_) AllReadyL.nil)
    go_simp
    go_wp2_with fail
    refine (repeat_any _ _ n (k2, a2, lo2, hi2) HN.out HN10.out).mono ?_
    rintro e x3 ⟨rfl, hrp, hba⟩
    have HBx3 : Hid (Below w2.heap.size w2 x3) := Lib.hid (kF hba HBx2.out)
    have HO12 : Hid (SpAt x3 w2.heap.size (.slice (some ⟨x2.heap.size, 0, none⟩) n n) (List.replicate n (k2, a2, lo2, hi2))) := Lib.hid (hrp.row (by omega) (by omega) HBx2.out.size)
    have HO8 := Lib.hid (HO8.out.below hba)
    have HN10 := Lib.hid ((hba.block _ (Array.getElem?_eq_some_iff.1 HN10.out).1).trans HN10.out)
    clear hrp hba
    generalize x2.heap.size = b12 at *
    refine hK.out _ _ ?_ (fun hHeld => ?_)
    · (try dsimp only); exact HS.out _ HBx3.out
    clear hK K
    refine wpAnyL_ready (rs := [6]) (by kernel_rfl) (by simp) ?_
    refine (AllReadyL.cons rfl (fun K hK => ?_) AllReadyL.nil)
    refine Eq.mpr (if_pos (by kernel_rfl)) ?_
    refine wp_append_own _ (.tmp 8) (.tmp 12) 120 rfl w2.heap.size 75 i0 (.agg #[.int .i64 0, .int .i64 0, .int .i64 0, .int .i64 0]) 4 32 Try.underlying120 HI.out hz0' hz1' hz2' rfl (by omega) (.slice (some ⟨b8, 0, none⟩) 1 1) 1 (spF [(k, a, lo, hi)]) rfl HO8.out ⟨b12, 0, none⟩ n n (spF (List.replicate n (k2, a2, lo2, hi2))) rfl (by rw [spF_len, List.length_replicate]) HO12.out.cells (spF_one _) (by simp [maxLen]; omega) (by omega) HBx3.out.size ?_
    intro v2 x4 q2 q2g q2n
    have hb8 : w2.heap.size ≤ b8 := by
      rcases HO8.out.2 with ⟨ev, _⟩ | ⟨b, cap, cur, ev, hb, _⟩
      · cases ev
      · cases ev; exact hb
    have HBx4 := Lib.hid (HBx3.out.grown q2g HBx3.out.size (fun k e => by cases e; exact hb8))
    have HZ := Lib.hid ((behind_end q2).mono (show w.heap.size ≤ w2.heap.size by rw [HS2.out]; omega))
    have HZB := Lib.hid (kF HBx4.out HB2.out)
    clear q2 q2g q2n hb8
    refine hK.out _ _ ?_ (fun hHeld => ?_)
    · (try dsimp only); exact HS.out _ HBx4.out
    clear hK K
    refine wpAnyL_ready (rs := [7]) (by kernel_rfl) (by simp) ?_
    refine AllReadyL.last rfl (fun K hK => ?_)
    go_simp
    refine hK.out _ _ ?_
    clear hK K
    refine wpAnyL_done (by kernel_rfl) ?_ _
    clear hHeld
    go_wp2_with fail
    go_ret
    exact ⟨_, rfl, HZ.out, HZB.out⟩
  · skip
    go_simp
    have HBx1 := Lib.hid (kA HBx0.out (.cells #[.int .i64 k2, .int .i64 a2, .int .i64 lo2, .int .i64 hi2] 75))
    refine hK.out _ _ ?_ (fun hHeld => ?_)
    · (try dsimp only); exact HS.out _ HBx1.out
    clear hK K
    have HN10 : Hid ((x0.alloc (.cells #[.int .i64 k2, .int .i64 a2, .int .i64 lo2, .int .i64 hi2] 75)).heap[x0.heap.size]? = some (.cells #[.int .i64 k2, .int .i64 a2, .int .i64 lo2, .int .i64 hi2] 75 (0, 0))) := Lib.hid (heap_alloc_new x0 _)
    have hba : Below x0.heap.size x0 (x0.alloc (.cells #[.int .i64 k2, .int .i64 a2, .int .i64 lo2, .int .i64 hi2] 75)) := (Below.refl _ _).alloc (Nat.le_refl _) _
    clear hba
    generalize x0.alloc (.cells #[.int .i64 k2, .int .i64 a2, .int .i64 lo2, .int .i64 hi2] 75) = x1 at *
    generalize x0.heap.size = b10 at *
    refine wpAnyL_ready (rs := [1, 5]) (by kernel_rfl) (by simp) ?_
    refine (AllReadyL.cons rfl (fun K hK => ?_) (AllReadyL.cons rfl (fun K hK => ?_) AllReadyL.nil))
    · skip
      go_simp
      have HBx2 := Lib.hid (kA HBx1.out (.cells #[.int .i64 k, .int .i64 a, .int .i64 lo, .int .i64 hi] 75))
      refine hK.out _ _ ?_ (fun hHeld => ?_)
      · (try dsimp only); exact HS.out _ HBx2.out
      clear hK K
      have HN8 : Hid ((x1.alloc (.cells #[.int .i64 k, .int .i64 a, .int .i64 lo, .int .i64 hi] 75)).heap[x1.heap.size]? = some (.cells #[.int .i64 k, .int .i64 a, .int .i64 lo, .int .i64 hi] 75 (0, 0))) := Lib.hid (heap_alloc_new x1 _)
      have HO8 : Hid (SpAt (x1.alloc (.cells #[.int .i64 k, .int .i64 a, .int .i64 lo, .int .i64 hi] 75)) w2.heap.size (.slice (some ⟨x1.heap.size, 0, none⟩) 1 1) [(k, a, lo, hi)]) := Lib.hid ((SpAt.new x1 [(k, a, lo, hi)] (by simp) (by simp)).mono HBx1.out.size)
      have hba : Below x1.heap.size x1 (x1.alloc (.cells #[.int .i64 k, .int .i64 a, .int .i64 lo, .int .i64 hi] 75)) := (Below.refl _ _).alloc (Nat.le_refl _) _
      have HN10 := Lib.hid ((hba.block _ (Array.getElem?_eq_some_iff.1 HN10.out).1).trans HN10.out)
      clear hba
      generalize x1.alloc (.cells #[.int .i64 k, .int .i64 a, .int .i64 lo, .int .i64 hi] 75) = x2 at *
      generalize x1.heap.size = b8 at *
      refine wpAnyL_ready (rs := [5]) (by kernel_rfl) (by simp) ?_
      refine (AllReadyL.cons rfl (fun K hK => ?_) AllReadyL.nil)
      go_simp
      go_wp2_with fail
      refine (repeat_any _ _ n (k2, a2, lo2, hi2) HN.out HN10.out).mono ?_
      rintro e x3 ⟨rfl, hrp, hba⟩
      have HBx3 : Hid (Below w2.heap.size w2 x3) := Lib.hid (kF hba HBx2.out)
      have HO12 : Hid (SpAt x3 w2.heap.size (.slice (some ⟨x2.heap.size, 0, none⟩) n n) (List.replicate n (k2, a2, lo2, hi2))) := Lib.hid (hrp.row (by omega) (by omega) HBx2.out.size)
      have HN10 := Lib.hid ((hba.block _ (Array.getElem?_eq_some_iff.1 HN10.out).1).trans HN10.out)
      have HO8 := Lib.hid (HO8.out.below hba)
      clear hrp hba
      generalize x2.heap.size = b12 at *
      refine hK.out _ _ ?_ (fun hHeld => ?_)
      · (try dsimp only); exact HS.out _ HBx3.out
      clear hK K
      refine wpAnyL_ready (rs := [6]) (by kernel_rfl) (by simp) ?_
      refine (AllReadyL.cons rfl (fun K hK => ?_) AllReadyL.nil)
      refine Eq.mpr (if_pos (by kernel_rfl)) ?_
      refine wp_append_own _ (.tmp 8) (.tmp 12) 120 rfl w2.heap.size 75 i0 (.agg #[.int .i64 0, .int .i64 0, .int .i64 0, .int .i64 0]) 4 32 Try.underlying120 HI.out hz0' hz1' hz2' rfl (by omega) (.slice (some ⟨b8, 0, none⟩) 1 1) 1 (spF [(k, a, lo, hi)]) rfl HO8.out ⟨b12, 0, none⟩ n n (spF (List.replicate n (k2, a2, lo2, hi2))) rfl (by rw [spF_len, List.length_replicate]) HO12.out.cells (spF_one _) (by simp [maxLen]; omega) (by omega) HBx3.out.size ?_
      intro v2 x4 q2 q2g q2n
      have hb8 : w2.heap.size ≤ b8 := by
        rcases HO8.out.2 with ⟨ev, _⟩ | ⟨b, cap, cur, ev, hb, _⟩
        · cases ev
        · cases ev; exact hb
      have HBx4 := Lib.hid (HBx3.out.grown q2g HBx3.out.size (fun k e => by cases e; exact hb8))
      have HZ := Lib.hid ((behind_end q2).mono (show w.heap.size ≤ w2.heap.size by rw [HS2.out]; omega))
      have HZB := Lib.hid (kF HBx4.out HB2.out)
      clear q2 q2g q2n hb8
      refine hK.out _ _ ?_ (fun hHeld => ?_)
      · (try dsimp only); exact HS.out _ HBx4.out
      clear hK K
      refine wpAnyL_ready (rs := [7]) (by kernel_rfl) (by simp) ?_
      refine AllReadyL.last rfl (fun K hK => ?_)
      go_simp
      refine hK.out _ _ ?_
      clear hK K
      refine wpAnyL_done (by kernel_rfl) ?_ _
      clear hHeld
      go_wp2_with fail
      go_ret
      exact ⟨_, rfl, HZ.out, HZB.out⟩
    · skip
      go_simp
      go_wp2_with fail
      refine (repeat_any _ _ n (k2, a2, lo2, hi2) HN.out HN10.out).mono ?_
      rintro e x2 ⟨rfl, hrp, hba⟩
      have HBx2 : Hid (Below w2.heap.size w2 x2) := Lib.hid (kF hba HBx1.out)
      have HO12 : Hid (SpAt x2 w2.heap.size (.slice (some ⟨x1.heap.size, 0, none⟩) n n) (List.replicate n (k2, a2, lo2, hi2))) := Lib.hid (hrp.row (by omega) (by omega) HBx1.out.size)
      have HN10 := Lib.hid ((hba.block _ (Array.getElem?_eq_some_iff.1 HN10.out).1).trans HN10.out)
      clear hrp hba
      generalize x1.heap.size = b12 at *
      refine hK.out _ _ ?_ (fun hHeld => ?_)
      · (try dsimp only); exact HS.out _ HBx2.out
      clear hK K
      refine wpAnyL_ready (rs := [1]) (by kernel_rfl) (by simp) ?_
      refine (AllReadyL.cons rfl (fun K hK => ?_) AllReadyL.nil)
      go_simp
      have HBx3 := Lib.hid (kA HBx2.out (.cells #[.int .i64 k, .int .i64 a, .int .i64 lo, .int .i64 hi] 75))
      refine hK.out _ _ ?_ (fun hHeld => ?_)
      · (try dsimp only); exact HS.out _ HBx3.out
      clear hK K
      have HN8 : Hid ((x2.alloc (.cells #[.int .i64 k, .int .i64 a, .int .i64 lo, .int .i64 hi] 75)).heap[x2.heap.size]? = some (.cells #[.int .i64 k, .int .i64 a, .int .i64 lo, .int .i64 hi] 75 (0, 0))) := Lib.hid (heap_alloc_new x2 _)
      have HO8 : Hid (SpAt (x2.alloc (.cells #[.int .i64 k, .int .i64 a, .int .i64 lo, .int .i64 hi] 75)) w2.heap.size (.slice (some ⟨x2.heap.size, 0, none⟩) 1 1) [(k, a, lo, hi)]) := Lib.hid ((SpAt.new x2 [(k, a, lo, hi)] (by simp) (by simp)).mono HBx2.out.size)
      have hba : Below x2.heap.size x2 (x2.alloc (.cells #[.int .i64 k, .int .i64 a, .int .i64 lo, .int .i64 hi] 75)) := (Below.refl _ _).alloc (Nat.le_refl _) _
      have HN10 := Lib.hid ((hba.block _ (Array.getElem?_eq_some_iff.1 HN10.out).1).trans HN10.out)
      have HO12 := Lib.hid (HO12.out.below hba)
      clear hba
      generalize x2.alloc (.cells #[.int .i64 k, .int .i64 a, .int .i64 lo, .int .i64 hi] 75) = x3 at *
      generalize x2.heap.size = b8 at *
      refine wpAnyL_ready (rs := [6]) (by kernel_rfl) (by simp) ?_
      refine (AllReadyL.cons rfl (fun K hK => ?_) AllReadyL.nil)
      refine Eq.mpr (if_pos (by kernel_rfl)) ?_
      refine wp_append_own _ (.tmp 8) (.tmp 12) 120 rfl w2.heap.size 75 i0 (.agg #[.int .i64 0, .int .i64 0, .int .i64 0, .int .i64 0]) 4 32 Try.underlying120 HI.out hz0' hz1' hz2' rfl (by omega) (.slice (some ⟨b8, 0, none⟩) 1 1) 1 (spF [(k, a, lo, hi)]) rfl HO8.out ⟨b12, 0, none⟩ n n (spF (List.replicate n (k2, a2, lo2, hi2))) rfl (by rw [spF_len, List.length_replicate]) HO12.out.cells (spF_one _) (by simp [maxLen]; omega) (by omega) HBx3.out.size ?_
      intro v2 x4 q2 q2g q2n
      have hb8 : w2.heap.size ≤ b8 := by
        rcases HO8.out.2 with ⟨ev, _⟩ | ⟨b, cap, cur, ev, hb, _⟩
        · cases ev
        · cases ev; exact hb
      have HBx4 := Lib.hid (HBx3.out.grown q2g HBx3.out.size (fun k e => by cases e; exact hb8))
      have HZ := Lib.hid ((behind_end q2).mono (show w.heap.size ≤ w2.heap.size by rw [HS2.out]; omega))
      have HZB := Lib.hid (kF HBx4.out HB2.out)
      clear q2 q2g q2n hb8
      refine hK.out _ _ ?_ (fun hHeld => ?_)
      · (try dsimp only); exact HS.out _ HBx4.out
      clear hK K
      refine wpAnyL_ready (rs := [7]) (by kernel_rfl) (by simp) ?_
      refine AllReadyL.last rfl (fun K hK => ?_)
      go_simp
      refine hK.out _ _ ?_
      clear hK K
      refine wpAnyL_done (by kernel_rfl) ?_ _
      clear hHeld
      go_wp2_with fail
      go_ret
      exact ⟨_, rfl, HZ.out, HZB.out⟩
end Go.Proofs.Ytgaoplbocjadaaa