/- What Decode answers. -/
import Derived.Test.YtoamgdcjmkkmfaaKp
import Derived.Deep.CutBlock
namespace Go.Proofs.Ytoamgdcjmkkmfaa
open Go.RowKit
set_option linter.unusedSimpArgs false
set_option linter.unusedVariables false
set_option maxHeartbeats 4000000

def zM : Ms := ⟨0, 0, 0, false, false, false, false, 0, 0, 0, 0, 0, 0, 0, 0, 0, 0, 0, 0, 0, 0⟩
theorem cmdE_rng (h : Int) (ans : Bool) : 0 ≤ cmdE h ans ∧ cmdE h ans ≤ 17 := by
  unfold cmdE blkE pickE
  (repeat' split) <;> omega
theorem take_rng {l : List Int} {n k : Nat} (h : ∀ x ∈ l, 0 ≤ x ∧ x ≤ 255) : 0 ≤ (l.take n).getD k 0 ∧ (l.take n).getD k 0 ≤ 255 := byte8_of (fun x hx => h x (List.mem_of_mem_take hx)) k
theorem getM_B {l : List Int} (hl : Byte8 l) (c : Int) : MsB (getM c l) := by
  have h7 : ∀ x ∈ [l.getD 1 0, l.getD 2 0, l.getD 3 0, l.getD 4 0, l.getD 5 0, l.getD 6 0, l.getD 7 0], 0 ≤ x ∧ x ≤ 255 := by
    intro x hx
    simp only [List.mem_cons, List.not_mem_nil, or_false] at hx
    rcases hx with rfl | rfl | rfl | rfl | rfl | rfl | rfl <;> exact hl _
  have h4 : ∀ x ∈ [l.getD 4 0, l.getD 5 0, l.getD 6 0, l.getD 7 0], 0 ≤ x ∧ x ≤ 255 := by
    intro x hx
    simp only [List.mem_cons, List.not_mem_nil, or_false] at hx
    rcases hx with rfl | rfl | rfl | rfl <;> exact hl _
  intro x hx
  unfold Ms.d dL at hx
  simp only [List.mem_cons, List.not_mem_nil, or_false] at hx
  unfold getM at hx
  by_cases c1 : c = 1
  · rw [if_pos c1] at hx
    split at hx
    · rcases hx with rfl | rfl | rfl | rfl | rfl | rfl | rfl <;> exact take_rng h4
    · simp only [or_self] at hx; subst hx; omega
  rw [if_neg c1] at hx
  by_cases c10 : c = 10
  · rw [if_pos c10] at hx
    split at hx
    · rcases hx with rfl | rfl | rfl | rfl | rfl | rfl | rfl <;> exact take_rng h4
    · simp only [or_self] at hx; subst hx; omega
  rw [if_neg c10] at hx
  by_cases e0 : c = 0
  · rw [if_pos e0] at hx
    simp only [or_self] at hx; subst hx; omega
  rw [if_neg e0] at hx
  by_cases e7 : c = 7
  · rw [if_pos e7] at hx
    simp only [or_self] at hx; subst hx; omega
  rw [if_neg e7] at hx
  by_cases e17 : c = 17
  · rw [if_pos e17] at hx
    simp only [or_self] at hx; subst hx; omega
  rw [if_neg e17] at hx
  by_cases e4 : c = 4
  · rw [if_pos e4] at hx
    simp only [or_self] at hx; subst hx; omega
  rw [if_neg e4] at hx
  by_cases e9 : c = 9
  · rw [if_pos e9] at hx
    simp only [or_self] at hx; subst hx; omega
  rw [if_neg e9] at hx
  by_cases e15 : c = 15
  · rw [if_pos e15] at hx
    simp only [or_self] at hx; subst hx; omega
  rw [if_neg e15] at hx
  by_cases e16 : c = 16
  · rw [if_pos e16] at hx
    simp only [or_self] at hx; subst hx; omega
  rw [if_neg e16] at hx
  by_cases e3 : c = 3
  · rw [if_pos e3] at hx
    simp only [or_self] at hx; subst hx; omega
  rw [if_neg e3] at hx
  by_cases e8 : c = 8
  · rw [if_pos e8] at hx
    simp only [or_self] at hx; subst hx; omega
  rw [if_neg e8] at hx
  by_cases e5 : c = 5
  · rw [if_pos e5] at hx
    simp only [or_self] at hx; subst hx; omega
  rw [if_neg e5] at hx
  by_cases e13 : c = 13
  · rw [if_pos e13] at hx
    simp only [or_self] at hx; subst hx; omega
  rw [if_neg e13] at hx
  by_cases e14 : c = 14
  · rw [if_pos e14] at hx
    simp only [or_self] at hx; subst hx; omega
  rw [if_neg e14] at hx
  by_cases e2 : c = 2
  · rw [if_pos e2] at hx
    rcases hx with rfl | rfl | rfl | rfl | rfl | rfl | rfl <;> exact take_rng h7
  rw [if_neg e2] at hx
  by_cases e11 : c = 11
  · rw [if_pos e11] at hx
    rcases hx with rfl | rfl | rfl | rfl | rfl | rfl | rfl <;> exact take_rng h7
  rw [if_neg e11] at hx
  by_cases e6 : c = 6
  · rw [if_pos e6] at hx
    simp only [or_self] at hx; subst hx; omega
  rw [if_neg e6] at hx
  by_cases e12 : c = 12
  · rw [if_pos e12] at hx
    simp only [or_self] at hx; subst hx; omega
  rw [if_neg e12] at hx
  simp only [or_self] at hx; subst hx; omega
def decM (l : List Int) (ans : Bool) : Ms × Int := if (encM (getM (cmdE (l.getD 0 0) ans) l)).2 = 0 ∧ eqL (encM (getM (cmdE (l.getD 0 0) ans) l)).1 l = true then (getM (cmdE (l.getD 0 0) ans) l, 0) else (zM, 4)
set_option maxRecDepth 8000 in
theorem decode_any (l : List Int) (ans : Bool) (hl : Byte8 l) (w : World) : Calls Try.prog 4 #[.agg (lnA l), .bool ans] w fun e w' => e = .returned (.tuple #[.agg (mAr (decM l ans).1), .int .i64 (decM l ans).2]) ∧ Below w.heap.size w w' := by
  have hl0 : LnAt ((w.alloc (.cells (lnA l) 23)).alloc (.cells #[.int .i64 0, .int .i64 0, .int .i64 0, .bool false, .bool false, .bool false, .bool false, .int .i64 0, .int .i64 0, .int .u8 0, .int .u8 0, .int .u8 0, .int .u8 0, .int .u8 0, .int .u8 0, .int .u8 0, .int .i64 0, .int .i64 0, .int .i64 0, .int .i64 0, .int .i64 0] 30)) w.heap.size l := (heap_alloc_old _ _ (by simp)).trans (heap_alloc_new w _)
  have hz0 : ((w.alloc (.cells (lnA l) 23)).alloc (.cells #[.int .i64 0, .int .i64 0, .int .i64 0, .bool false, .bool false, .bool false, .bool false, .int .i64 0, .int .i64 0, .int .u8 0, .int .u8 0, .int .u8 0, .int .u8 0, .int .u8 0, .int .u8 0, .int .u8 0, .int .i64 0, .int .i64 0, .int .i64 0, .int .i64 0, .int .i64 0] 30)).heap[w.heap.size + 1]? = some (.cells (mAr zM) 30 (0, 0)) := by
    have := heap_alloc_new (w.alloc (.cells (lnA l) 23)) (.cells #[.int .i64 0, .int .i64 0, .int .i64 0, .bool false, .bool false, .bool false, .bool false, .int .i64 0, .int .i64 0, .int .u8 0, .int .u8 0, .int .u8 0, .int .u8 0, .int .u8 0, .int .u8 0, .int .u8 0, .int .i64 0, .int .i64 0, .int .i64 0, .int .i64 0, .int .i64 0] 30)
    rw [show (w.alloc (.cells (lnA l) 23)).heap.size = w.heap.size + 1 by simp] at this
    exact this
  have hb0 : Below w.heap.size w ((w.alloc (.cells (lnA l) 23)).alloc (.cells #[.int .i64 0, .int .i64 0, .int .i64 0, .bool false, .bool false, .bool false, .bool false, .int .i64 0, .int .i64 0, .int .u8 0, .int .u8 0, .int .u8 0, .int .u8 0, .int .u8 0, .int .u8 0, .int .u8 0, .int .i64 0, .int .i64 0, .int .i64 0, .int .i64 0, .int .i64 0] 30)) := ((Below.refl _ _).alloc (Nat.le_refl _) _).alloc (by simp) _
  have hs0 : ((w.alloc (.cells (lnA l) 23)).alloc (.cells #[.int .i64 0, .int .i64 0, .int .i64 0, .bool false, .bool false, .bool false, .bool false, .int .i64 0, .int .i64 0, .int .u8 0, .int .u8 0, .int .u8 0, .int .u8 0, .int .u8 0, .int .u8 0, .int .u8 0, .int .i64 0, .int .i64 0, .int .i64 0, .int .i64 0, .int .i64 0] 30)).heap.size = w.heap.size + 2 := by simp
  have hb := hl 0
  have hca := fun w => cmd_any (l.getD 0 0) ans hb.1 hb.2 w
  have hge := fun w => mget_any (cmdE (l.getD 0 0) ans) l (cmdE_rng _ _) hl w
  have hdec : decM l ans = if (encM (getM (cmdE (l.getD 0 0) ans) l)).2 = 0 ∧ eqL (encM (getM (cmdE (l.getD 0 0) ans) l)).1 l = true then (getM (cmdE (l.getD 0 0) ans) l, 0) else (zM, 4) := rfl
  have hmb := getM_B hl (cmdE (l.getD 0 0) ans)
  obtain ⟨m, hm⟩ : ∃ m, getM (cmdE (l.getD 0 0) ans) l = m := ⟨_, rfl⟩
  rw [hm] at hge hmb hdec
  have hen := fun w => encode_any m hmb w
  obtain ⟨p, hp⟩ : ∃ p, encM m = p := ⟨_, rfl⟩
  rw [hp] at hen hdec
  obtain ⟨L, er⟩ := p
  have hcm := fun w => run_eqL L l w
  obtain ⟨q, hq⟩ : ∃ q, eqL L l = q := ⟨_, rfl⟩
  simp only [hq] at hcm hdec
  rw [hdec]
  by_cases her : er = 0
  case neg =>
    rw [if_neg (fun h => her h.1)]
    generalize cmdE (l.getD 0 0) ans = cc at hca hge
    have HL0 := Lib.hid hl0
    have HZ0 := Lib.hid hz0
    have HB0 := Lib.hid hb0
    have HS0 := Lib.hid hs0
    have HCA := Lib.hid hca
    have HGE := Lib.hid hge
    have HEN := Lib.hid hen
    have HCM := Lib.hid hcm
    clear hl0 hz0 hb0 hs0 hca hge hen hcm hmb hdec hp hq hm hl
    go_enter Try.func4, Try.ntmps4
    go_upto_region 1 with fail
    generalize ((w.alloc (.cells (lnA l) 23)).alloc (.cells #[.int .i64 0, .int .i64 0, .int .i64 0, .bool false, .bool false, .bool false, .bool false, .int .i64 0, .int .i64 0, .int .u8 0, .int .u8 0, .int .u8 0, .int .u8 0, .int .u8 0, .int .u8 0, .int .u8 0, .int .i64 0, .int .i64 0, .int .i64 0, .int .i64 0, .int .i64 0] 30)) = w1 at *
    go_cut [6] from 9 to 14 (fun s6 wx => ∃ g : Nat, s6 = .pointer (some ⟨g, 0, none⟩) ∧ Hid (wx.heap[g]? = some (.cells (mAr m) 30 (0, 0))) ∧ Hid (LnAt wx w.heap.size l) ∧ Hid (wx.heap[w.heap.size + 1]? = some (.cells (mAr zM) 30 (0, 0))) ∧ Hid (Below w.heap.size w wx) ∧ Hid (w.heap.size + 2 ≤ g ∧ g < wx.heap.size))
    case first =>
      have HL1 : Hid (LnAt w1.drew w.heap.size l) := HL0.out
      have HZ1 : Hid (w1.drew.heap[w.heap.size + 1]? = some (.cells (mAr zM) 30 (0, 0))) := HZ0.out
      have HB1 := Lib.hid HB0.out.drew
      have HS1 : Hid (w1.drew.heap.size = w.heap.size + 2) := HS0.out
      refine wp_region_last (fun w' => LnAt w' w.heap.size l ∧ w'.cell? ⟨w.heap.size, 0, none⟩ = some (.int .u8 (l.getD 0 0))) 7 (by kernel_rfl) ⟨HL1.out, by show w1.drew.cell? _ = _; rw [cell_of_row _ _ _ _ _ _ HL1.out]; rfl⟩ ?_
      intro hHeld
      refine wpAnyL_take (i := 0) (v := .agg (lnA l)) rfl (by kernel_rfl) (by kernel_rfl) (by kernel_rfl) (by kernel_rfl) (by kernel_rfl) (fun _ _ _ h => h) (Or.inl ⟨by rfl, ?_⟩) (by assumption) ?_
      · intro wq hSw
        exact run_load_row (x := .tmp 2) rfl rfl hSw.1 rfl Try.underlying23 info_line
      try simp only [Act.put, List.setIfInBounds_toArray, List.set_cons_zero, List.set_cons_succ]
      refine wpAnyL_take (i := 1) (v := ?_) rfl (by kernel_rfl) (by kernel_rfl) (by kernel_rfl) (by kernel_rfl) (by kernel_rfl) (fun _ _ _ h => h) (Or.inl ⟨by rfl, ?_⟩) (by assumption) ?_
      rotate_left
      · intro wq hSw; (try dsimp only at hSw); first | (go_simp; done) | (go_simp; with_reducible rfl) | with_reducible rfl
      try simp only [Act.put, List.setIfInBounds_toArray, List.set_cons_zero, List.set_cons_succ]
      refine wpAnyL_take (i := 2) (v := .int .u8 (l.getD 0 0)) rfl (by kernel_rfl) (by kernel_rfl) (by kernel_rfl) (by kernel_rfl) (by kernel_rfl) (fun _ _ _ h => h) (Or.inl ⟨by rfl, ?_⟩) (by assumption) ?_
      · intro wq hSw
        have hk := hSw.2
        clear hSw
        first | (go_simp; done) | (go_simp; with_reducible rfl) | with_reducible rfl
      try simp only [Act.put, List.setIfInBounds_toArray, List.set_cons_zero, List.set_cons_succ]
      refine wpAnyL_take (i := 3) (v := ?_) rfl (by kernel_rfl) (by kernel_rfl) (by kernel_rfl) (by kernel_rfl) (by kernel_rfl) (fun _ _ _ h => h) (Or.inl ⟨by rfl, ?_⟩) (by assumption) ?_
      rotate_left
      · intro wq hSw; (try dsimp only at hSw); first | (go_simp; done) | (go_simp; with_reducible rfl) | with_reducible rfl
      try simp only [Act.put, List.setIfInBounds_toArray, List.set_cons_zero, List.set_cons_succ]
      refine wpAnyL_ready (rs := [4, 6]) (by kernel_rfl) (by simp) ?_
      refine (AllReadyL.cons rfl (fun K hK => ?_) (AllReadyL.cons rfl (fun K hK => ?_) AllReadyL.nil))
      · go_simp
        go_wp2_with fail
        refine (HCA.out _).mono ?_
        rintro e wq ⟨rfl, rfl⟩
        refine hK.out _ _ hHeld (fun hHeld => ?_)
        clear hK K
        refine wpAnyL_ready (rs := [5, 6]) (by kernel_rfl) (by simp) ?_
        refine (AllReadyL.cons rfl (fun K hK => ?_) (AllReadyL.cons rfl (fun K hK => ?_) AllReadyL.nil))
        · go_simp
          go_wp2_with fail
          refine (HGE.out _).mono ?_
          rintro e w2 ⟨rfl, hb2⟩
          have HL2 := Lib.hid (HL1.out.below hb2 HL1.out.lt)
          have HZ2 := Lib.hid ((hb2.block (w.heap.size + 1) (Array.getElem?_eq_some_iff.1 HZ1.out).1).trans HZ1.out)
          have HB2 := Lib.hid (HB1.out.trans (hb2.mono HB1.out.size))
          refine hK.out _ _ ⟨HL2.out, by show (w2).cell? _ = _; rw [cell_of_row _ _ _ _ _ _ HL2.out]; rfl⟩ (fun hHeld => ?_)
          clear hK K hb2
          refine wpAnyL_ready (rs := [6]) (by kernel_rfl) (by simp) ?_
          refine (AllReadyL.cons rfl (fun K hK => ?_) AllReadyL.nil)
          go_simp
          have HL3 := Lib.hid (HL2.out.alloc (.cells #[.int .i64 0, .int .i64 0, .int .i64 0, .bool false, .bool false, .bool false, .bool false, .int .i64 0, .int .i64 0, .int .u8 0, .int .u8 0, .int .u8 0, .int .u8 0, .int .u8 0, .int .u8 0, .int .u8 0, .int .i64 0, .int .i64 0, .int .i64 0, .int .i64 0, .int .i64 0] 30))
          have HZ3 := Lib.hid ((heap_alloc_old w2 (.cells #[.int .i64 0, .int .i64 0, .int .i64 0, .bool false, .bool false, .bool false, .bool false, .int .i64 0, .int .i64 0, .int .u8 0, .int .u8 0, .int .u8 0, .int .u8 0, .int .u8 0, .int .u8 0, .int .u8 0, .int .i64 0, .int .i64 0, .int .i64 0, .int .i64 0, .int .i64 0] 30) (Array.getElem?_eq_some_iff.1 HZ2.out).1).trans HZ2.out)
          have HM3 : Hid ((w2.alloc (.cells #[.int .i64 0, .int .i64 0, .int .i64 0, .bool false, .bool false, .bool false, .bool false, .int .i64 0, .int .i64 0, .int .u8 0, .int .u8 0, .int .u8 0, .int .u8 0, .int .u8 0, .int .u8 0, .int .u8 0, .int .i64 0, .int .i64 0, .int .i64 0, .int .i64 0, .int .i64 0] 30)).heap[w2.heap.size]? = some (.cells (mAr zM) 30 (0, 0))) := heap_alloc_new w2 (.cells #[.int .i64 0, .int .i64 0, .int .i64 0, .bool false, .bool false, .bool false, .bool false, .int .i64 0, .int .i64 0, .int .u8 0, .int .u8 0, .int .u8 0, .int .u8 0, .int .u8 0, .int .u8 0, .int .u8 0, .int .i64 0, .int .i64 0, .int .i64 0, .int .i64 0, .int .i64 0] 30)
          have HB3 := Lib.hid (HB2.out.alloc HB2.out.size (.cells #[.int .i64 0, .int .i64 0, .int .i64 0, .bool false, .bool false, .bool false, .bool false, .int .i64 0, .int .i64 0, .int .u8 0, .int .u8 0, .int .u8 0, .int .u8 0, .int .u8 0, .int .u8 0, .int .u8 0, .int .i64 0, .int .i64 0, .int .i64 0, .int .i64 0, .int .i64 0] 30))
          have HG3 : Hid (w.heap.size + 2 ≤ w2.heap.size ∧ w2.heap.size < (w2.alloc (.cells #[.int .i64 0, .int .i64 0, .int .i64 0, .bool false, .bool false, .bool false, .bool false, .int .i64 0, .int .i64 0, .int .u8 0, .int .u8 0, .int .u8 0, .int .u8 0, .int .u8 0, .int .u8 0, .int .u8 0, .int .i64 0, .int .i64 0, .int .i64 0, .int .i64 0, .int .i64 0] 30)).heap.size) := ⟨by have := (Array.getElem?_eq_some_iff.1 HZ2.out).1; omega, by show w2.heap.size < (w2.alloc (.cells #[.int .i64 0, .int .i64 0, .int .i64 0, .bool false, .bool false, .bool false, .bool false, .int .i64 0, .int .i64 0, .int .u8 0, .int .u8 0, .int .u8 0, .int .u8 0, .int .u8 0, .int .u8 0, .int .u8 0, .int .i64 0, .int .i64 0, .int .i64 0, .int .i64 0, .int .i64 0] 30)).heap.size; simp⟩
          refine hK.out _ _ ⟨HL3.out, by show (w2.alloc (.cells #[.int .i64 0, .int .i64 0, .int .i64 0, .bool false, .bool false, .bool false, .bool false, .int .i64 0, .int .i64 0, .int .u8 0, .int .u8 0, .int .u8 0, .int .u8 0, .int .u8 0, .int .u8 0, .int .u8 0, .int .i64 0, .int .i64 0, .int .i64 0, .int .i64 0, .int .i64 0] 30)).cell? _ = _; rw [cell_of_row _ _ _ _ _ _ HL3.out]; rfl⟩ (fun hHeld => ?_)
          clear hK K
          refine wpAnyL_ready (rs := [7]) (by kernel_rfl) (by simp) ?_
          refine AllReadyL.last rfl (fun K hK => ?_)
          refine Eq.mpr (if_pos (by kernel_rfl)) ?_
          refine wp_store_row 30 (.tmp 6) (.tmp 14) rfl w2.heap.size (mAr m) rfl rfl _ _ HM3.out info_msg rfl (mAr_one m) ?_
          refine hK.out _ _ ?_
          clear hK K hHeld
          refine wpAnyL_done (by kernel_rfl) ?_ _
          go_wp2_with fail
          go_meet
          exact ⟨w2.heap.size, rfl, setRow_heap _ w2.heap.size _ (mAr m) _ _ HM3.out, (setRow_other _ w2.heap.size w.heap.size (mAr m) (by have := HG3.out; omega)).trans HL3.out, (setRow_other _ w2.heap.size (w.heap.size + 1) (mAr m) (by have := HG3.out; omega)).trans HZ3.out, below_setRow HB3.out (by have := HG3.out; omega) _, HG3.out.1, by rw [size_setRow]; exact HG3.out.2⟩
        · go_simp
          have HL3 := Lib.hid (HL1.out.alloc (.cells #[.int .i64 0, .int .i64 0, .int .i64 0, .bool false, .bool false, .bool false, .bool false, .int .i64 0, .int .i64 0, .int .u8 0, .int .u8 0, .int .u8 0, .int .u8 0, .int .u8 0, .int .u8 0, .int .u8 0, .int .i64 0, .int .i64 0, .int .i64 0, .int .i64 0, .int .i64 0] 30))
          have HZ3 := Lib.hid ((heap_alloc_old w1.drew (.cells #[.int .i64 0, .int .i64 0, .int .i64 0, .bool false, .bool false, .bool false, .bool false, .int .i64 0, .int .i64 0, .int .u8 0, .int .u8 0, .int .u8 0, .int .u8 0, .int .u8 0, .int .u8 0, .int .u8 0, .int .i64 0, .int .i64 0, .int .i64 0, .int .i64 0, .int .i64 0] 30) (Array.getElem?_eq_some_iff.1 HZ1.out).1).trans HZ1.out)
          have HM3 : Hid ((w1.drew.alloc (.cells #[.int .i64 0, .int .i64 0, .int .i64 0, .bool false, .bool false, .bool false, .bool false, .int .i64 0, .int .i64 0, .int .u8 0, .int .u8 0, .int .u8 0, .int .u8 0, .int .u8 0, .int .u8 0, .int .u8 0, .int .i64 0, .int .i64 0, .int .i64 0, .int .i64 0, .int .i64 0] 30)).heap[w1.drew.heap.size]? = some (.cells (mAr zM) 30 (0, 0))) := heap_alloc_new w1.drew (.cells #[.int .i64 0, .int .i64 0, .int .i64 0, .bool false, .bool false, .bool false, .bool false, .int .i64 0, .int .i64 0, .int .u8 0, .int .u8 0, .int .u8 0, .int .u8 0, .int .u8 0, .int .u8 0, .int .u8 0, .int .i64 0, .int .i64 0, .int .i64 0, .int .i64 0, .int .i64 0] 30)
          have HB3 := Lib.hid (HB1.out.alloc HB1.out.size (.cells #[.int .i64 0, .int .i64 0, .int .i64 0, .bool false, .bool false, .bool false, .bool false, .int .i64 0, .int .i64 0, .int .u8 0, .int .u8 0, .int .u8 0, .int .u8 0, .int .u8 0, .int .u8 0, .int .u8 0, .int .i64 0, .int .i64 0, .int .i64 0, .int .i64 0, .int .i64 0] 30))
          have HG3 : Hid (w.heap.size + 2 ≤ w1.drew.heap.size ∧ w1.drew.heap.size < (w1.drew.alloc (.cells #[.int .i64 0, .int .i64 0, .int .i64 0, .bool false, .bool false, .bool false, .bool false, .int .i64 0, .int .i64 0, .int .u8 0, .int .u8 0, .int .u8 0, .int .u8 0, .int .u8 0, .int .u8 0, .int .u8 0, .int .i64 0, .int .i64 0, .int .i64 0, .int .i64 0, .int .i64 0] 30)).heap.size) := ⟨by have := (Array.getElem?_eq_some_iff.1 HZ1.out).1; omega, by show w1.drew.heap.size < (w1.drew.alloc (.cells #[.int .i64 0, .int .i64 0, .int .i64 0, .bool false, .bool false, .bool false, .bool false, .int .i64 0, .int .i64 0, .int .u8 0, .int .u8 0, .int .u8 0, .int .u8 0, .int .u8 0, .int .u8 0, .int .u8 0, .int .i64 0, .int .i64 0, .int .i64 0, .int .i64 0, .int .i64 0] 30)).heap.size; simp⟩
          refine hK.out _ _ ⟨HL3.out, by show (w1.drew.alloc (.cells #[.int .i64 0, .int .i64 0, .int .i64 0, .bool false, .bool false, .bool false, .bool false, .int .i64 0, .int .i64 0, .int .u8 0, .int .u8 0, .int .u8 0, .int .u8 0, .int .u8 0, .int .u8 0, .int .u8 0, .int .i64 0, .int .i64 0, .int .i64 0, .int .i64 0, .int .i64 0] 30)).cell? _ = _; rw [cell_of_row _ _ _ _ _ _ HL3.out]; rfl⟩ (fun hHeld => ?_)
          clear hK K
          refine wpAnyL_ready (rs := [5]) (by kernel_rfl) (by simp) ?_
          refine (AllReadyL.cons rfl (fun K hK => ?_) AllReadyL.nil)
          go_simp
          go_wp2_with fail
          refine (HGE.out _).mono ?_
          rintro e w4 ⟨rfl, hb4⟩
          have HL4 := Lib.hid (HL3.out.below hb4 HL3.out.lt)
          have HZ4 := Lib.hid ((hb4.block (w.heap.size + 1) (Array.getElem?_eq_some_iff.1 HZ3.out).1).trans HZ3.out)
          have HB4 := Lib.hid (HB3.out.trans (hb4.mono HB3.out.size))
          have HG4 : Hid (w.heap.size + 2 ≤ w1.drew.heap.size ∧ w1.drew.heap.size < w4.heap.size) := ⟨HG3.out.1, Nat.lt_of_lt_of_le HG3.out.2 hb4.size⟩
          have HM4 := Lib.hid ((hb4.block (w1.drew.heap.size) HG3.out.2).trans HM3.out)
          refine hK.out _ _ ⟨HL4.out, by show (w4).cell? _ = _; rw [cell_of_row _ _ _ _ _ _ HL4.out]; rfl⟩ (fun hHeld => ?_)
          clear hK K hb4
          refine wpAnyL_ready (rs := [7]) (by kernel_rfl) (by simp) ?_
          refine AllReadyL.last rfl (fun K hK => ?_)
          refine Eq.mpr (if_pos (by kernel_rfl)) ?_
          refine wp_store_row 30 (.tmp 6) (.tmp 14) rfl w1.drew.heap.size (mAr m) rfl rfl _ _ HM4.out info_msg rfl (mAr_one m) ?_
          refine hK.out _ _ ?_
          clear hK K hHeld
          refine wpAnyL_done (by kernel_rfl) ?_ _
          go_wp2_with fail
          go_meet
          exact ⟨w1.drew.heap.size, rfl, setRow_heap _ w1.drew.heap.size _ (mAr m) _ _ HM4.out, (setRow_other _ w1.drew.heap.size w.heap.size (mAr m) (by have := HG4.out; omega)).trans HL4.out, (setRow_other _ w1.drew.heap.size (w.heap.size + 1) (mAr m) (by have := HG4.out; omega)).trans HZ4.out, below_setRow HB4.out (by have := HG4.out; omega) _, HG4.out.1, by rw [size_setRow]; exact HG4.out.2⟩
      · go_simp
        have HL3 := Lib.hid (HL1.out.alloc (.cells #[.int .i64 0, .int .i64 0, .int .i64 0, .bool false, .bool false, .bool false, .bool false, .int .i64 0, .int .i64 0, .int .u8 0, .int .u8 0, .int .u8 0, .int .u8 0, .int .u8 0, .int .u8 0, .int .u8 0, .int .i64 0, .int .i64 0, .int .i64 0, .int .i64 0, .int .i64 0] 30))
        have HZ3 := Lib.hid ((heap_alloc_old w1.drew (.cells #[.int .i64 0, .int .i64 0, .int .i64 0, .bool false, .bool false, .bool false, .bool false, .int .i64 0, .int .i64 0, .int .u8 0, .int .u8 0, .int .u8 0, .int .u8 0, .int .u8 0, .int .u8 0, .int .u8 0, .int .i64 0, .int .i64 0, .int .i64 0, .int .i64 0, .int .i64 0] 30) (Array.getElem?_eq_some_iff.1 HZ1.out).1).trans HZ1.out)
        have HM3 : Hid ((w1.drew.alloc (.cells #[.int .i64 0, .int .i64 0, .int .i64 0, .bool false, .bool false, .bool false, .bool false, .int .i64 0, .int .i64 0, .int .u8 0, .int .u8 0, .int .u8 0, .int .u8 0, .int .u8 0, .int .u8 0, .int .u8 0, .int .i64 0, .int .i64 0, .int .i64 0, .int .i64 0, .int .i64 0] 30)).heap[w1.drew.heap.size]? = some (.cells (mAr zM) 30 (0, 0))) := heap_alloc_new w1.drew (.cells #[.int .i64 0, .int .i64 0, .int .i64 0, .bool false, .bool false, .bool false, .bool false, .int .i64 0, .int .i64 0, .int .u8 0, .int .u8 0, .int .u8 0, .int .u8 0, .int .u8 0, .int .u8 0, .int .u8 0, .int .i64 0, .int .i64 0, .int .i64 0, .int .i64 0, .int .i64 0] 30)
        have HB3 := Lib.hid (HB1.out.alloc HB1.out.size (.cells #[.int .i64 0, .int .i64 0, .int .i64 0, .bool false, .bool false, .bool false, .bool false, .int .i64 0, .int .i64 0, .int .u8 0, .int .u8 0, .int .u8 0, .int .u8 0, .int .u8 0, .int .u8 0, .int .u8 0, .int .i64 0, .int .i64 0, .int .i64 0, .int .i64 0, .int .i64 0] 30))
        have HG3 : Hid (w.heap.size + 2 ≤ w1.drew.heap.size ∧ w1.drew.heap.size < (w1.drew.alloc (.cells #[.int .i64 0, .int .i64 0, .int .i64 0, .bool false, .bool false, .bool false, .bool false, .int .i64 0, .int .i64 0, .int .u8 0, .int .u8 0, .int .u8 0, .int .u8 0, .int .u8 0, .int .u8 0, .int .u8 0, .int .i64 0, .int .i64 0, .int .i64 0, .int .i64 0, .int .i64 0] 30)).heap.size) := ⟨by have := (Array.getElem?_eq_some_iff.1 HZ1.out).1; omega, by show w1.drew.heap.size < (w1.drew.alloc (.cells #[.int .i64 0, .int .i64 0, .int .i64 0, .bool false, .bool false, .bool false, .bool false, .int .i64 0, .int .i64 0, .int .u8 0, .int .u8 0, .int .u8 0, .int .u8 0, .int .u8 0, .int .u8 0, .int .u8 0, .int .i64 0, .int .i64 0, .int .i64 0, .int .i64 0, .int .i64 0] 30)).heap.size; simp⟩
        refine hK.out _ _ ⟨HL3.out, by show (w1.drew.alloc (.cells #[.int .i64 0, .int .i64 0, .int .i64 0, .bool false, .bool false, .bool false, .bool false, .int .i64 0, .int .i64 0, .int .u8 0, .int .u8 0, .int .u8 0, .int .u8 0, .int .u8 0, .int .u8 0, .int .u8 0, .int .i64 0, .int .i64 0, .int .i64 0, .int .i64 0, .int .i64 0] 30)).cell? _ = _; rw [cell_of_row _ _ _ _ _ _ HL3.out]; rfl⟩ (fun hHeld => ?_)
        clear hK K
        refine wpAnyL_ready (rs := [4]) (by kernel_rfl) (by simp) ?_
        refine (AllReadyL.cons rfl (fun K hK => ?_) AllReadyL.nil)
        go_simp
        go_wp2_with fail
        refine (HCA.out _).mono ?_
        rintro e wq ⟨rfl, rfl⟩
        refine hK.out _ _ hHeld (fun hHeld => ?_)
        clear hK K
        refine wpAnyL_ready (rs := [5]) (by kernel_rfl) (by simp) ?_
        refine (AllReadyL.cons rfl (fun K hK => ?_) AllReadyL.nil)
        go_simp
        go_wp2_with fail
        refine (HGE.out _).mono ?_
        rintro e w4 ⟨rfl, hb4⟩
        have HL4 := Lib.hid (HL3.out.below hb4 HL3.out.lt)
        have HZ4 := Lib.hid ((hb4.block (w.heap.size + 1) (Array.getElem?_eq_some_iff.1 HZ3.out).1).trans HZ3.out)
        have HB4 := Lib.hid (HB3.out.trans (hb4.mono HB3.out.size))
        have HG4 : Hid (w.heap.size + 2 ≤ w1.drew.heap.size ∧ w1.drew.heap.size < w4.heap.size) := ⟨HG3.out.1, Nat.lt_of_lt_of_le HG3.out.2 hb4.size⟩
        have HM4 := Lib.hid ((hb4.block (w1.drew.heap.size) HG3.out.2).trans HM3.out)
        refine hK.out _ _ ⟨HL4.out, by show (w4).cell? _ = _; rw [cell_of_row _ _ _ _ _ _ HL4.out]; rfl⟩ (fun hHeld => ?_)
        clear hK K hb4
        refine wpAnyL_ready (rs := [7]) (by kernel_rfl) (by simp) ?_
        refine AllReadyL.last rfl (fun K hK => ?_)
        refine Eq.mpr (if_pos (by kernel_rfl)) ?_
        refine wp_store_row 30 (.tmp 6) (.tmp 14) rfl w1.drew.heap.size (mAr m) rfl rfl _ _ HM4.out info_msg rfl (mAr_one m) ?_
        refine hK.out _ _ ?_
        clear hK K hHeld
        refine wpAnyL_done (by kernel_rfl) ?_ _
        go_wp2_with fail
        go_meet
        exact ⟨w1.drew.heap.size, rfl, setRow_heap _ w1.drew.heap.size _ (mAr m) _ _ HM4.out, (setRow_other _ w1.drew.heap.size w.heap.size (mAr m) (by have := HG4.out; omega)).trans HL4.out, (setRow_other _ w1.drew.heap.size (w.heap.size + 1) (mAr m) (by have := HG4.out; omega)).trans HZ4.out, below_setRow HB4.out (by have := HG4.out; omega) _, HG4.out.1, by rw [size_setRow]; exact HG4.out.2⟩
    case rest =>
      obtain ⟨g, rfl, HM4, HL4, HZ4, HB4, HG4⟩ := hcut
      clear HL0 HZ0 HB0 HS0 HCA HGE
      go_wp2_with (refine wpList_load_row rfl 30 (.tmp 6) rfl g rfl _ _ _ _ HM4.out Try.underlying30 rfl info_msg ?_)
      refine (HEN.out _).mono ?_
      rintro e w4 ⟨rfl, hb5⟩
      have HS5 : Hid (w.heap.size + 2 ≤ g ∧ g < w4.heap.size) := ⟨HG4.out.1, Nat.lt_of_lt_of_le HG4.out.2 hb5.size⟩
      have HL5 := Lib.hid (LnAt.alloc (HL4.out.below hb5 HL4.out.lt) (.cells #[.int .u8 0, .int .u8 0, .int .u8 0, .int .u8 0, .int .u8 0, .int .u8 0, .int .u8 0, .int .u8 0] 23))
      have HZ5 := Lib.hid ((heap_alloc_old w4 (.cells #[.int .u8 0, .int .u8 0, .int .u8 0, .int .u8 0, .int .u8 0, .int .u8 0, .int .u8 0, .int .u8 0] 23) (by have := HS5.out; omega)).trans ((hb5.block (w.heap.size + 1) (by have := HG4.out; omega)).trans HZ4.out))
      have HM5 := Lib.hid ((heap_alloc_old w4 (.cells #[.int .u8 0, .int .u8 0, .int .u8 0, .int .u8 0, .int .u8 0, .int .u8 0, .int .u8 0, .int .u8 0] 23) HS5.out.2).trans ((hb5.block g HG4.out.2).trans HM4.out))
      have HN5 := Lib.hid (ln_zero w4)
      have HB5 := Lib.hid ((HB4.out.trans (hb5.mono HB4.out.size)).alloc (by have := HS5.out; omega) (.cells #[.int .u8 0, .int .u8 0, .int .u8 0, .int .u8 0, .int .u8 0, .int .u8 0, .int .u8 0, .int .u8 0] 23))
      clear hb5 HL4 HZ4 HM4 HB4 HG4
      have hcm := HCM.out
      go_wp2_with (first
        | (refine wpList_store_row rfl _ (.tmp 7) (.tmp 18) rfl w4.heap.size (lnA L) rfl rfl _ _ HN5.out info_line rfl (ln_one _) ?_)
        | (refine wpList_load_row rfl 30 (.tmp 6) rfl g rfl _ _ _ _ ((setRow_other _ w4.heap.size _ (lnA L) (by have := HS5.out; omega)).trans HM5.out) Try.underlying30 rfl info_msg ?_)
        | (refine wpList_store_row rfl _ (.tmp 4) (.tmp 27) rfl (w.heap.size + 1) (mAr zM) rfl rfl _ _ ((setRow_other _ w4.heap.size _ (lnA L) (by have := HS5.out; omega)).trans HZ5.out) info_msg rfl (mAr_one _) ?_)
        | (refine wpList_store_row rfl _ (.tmp 4) (.tmp 28) rfl (w.heap.size + 1) (mAr m) rfl rfl _ _ ((setRow_other _ w4.heap.size _ (lnA L) (by have := HS5.out; omega)).trans HZ5.out) info_msg rfl (mAr_one _) ?_))
      exact bodyPost_ret ((results_cell_tmp_row rfl _ _ (w.heap.size + 1) _ _ _ _ rfl (setRow_heap _ _ _ (mAr zM) _ _ ((setRow_other _ w4.heap.size _ (lnA L) (by have := HS5.out; omega)).trans HZ5.out)) Try.underlying30 rfl info_msg).trans (by rfl)) rfl ⟨rfl, below_setRow (below_setRow HB5.out (by have := HS5.out; omega) _) (show w.heap.size ≤ w.heap.size + 1 by omega) _⟩
  subst her
  cases q
  case false =>
    rw [if_neg (fun h => by cases h.2)]
    generalize cmdE (l.getD 0 0) ans = cc at hca hge
    have HL0 := Lib.hid hl0
    have HZ0 := Lib.hid hz0
    have HB0 := Lib.hid hb0
    have HS0 := Lib.hid hs0
    have HCA := Lib.hid hca
    have HGE := Lib.hid hge
    have HEN := Lib.hid hen
    have HCM := Lib.hid hcm
    clear hl0 hz0 hb0 hs0 hca hge hen hcm hmb hdec hp hq hm hl
    go_enter Try.func4, Try.ntmps4
    go_upto_region 1 with fail
    generalize ((w.alloc (.cells (lnA l) 23)).alloc (.cells #[.int .i64 0, .int .i64 0, .int .i64 0, .bool false, .bool false, .bool false, .bool false, .int .i64 0, .int .i64 0, .int .u8 0, .int .u8 0, .int .u8 0, .int .u8 0, .int .u8 0, .int .u8 0, .int .u8 0, .int .i64 0, .int .i64 0, .int .i64 0, .int .i64 0, .int .i64 0] 30)) = w1 at *
    go_cut [6] from 9 to 14 (fun s6 wx => ∃ g : Nat, s6 = .pointer (some ⟨g, 0, none⟩) ∧ Hid (wx.heap[g]? = some (.cells (mAr m) 30 (0, 0))) ∧ Hid (LnAt wx w.heap.size l) ∧ Hid (wx.heap[w.heap.size + 1]? = some (.cells (mAr zM) 30 (0, 0))) ∧ Hid (Below w.heap.size w wx) ∧ Hid (w.heap.size + 2 ≤ g ∧ g < wx.heap.size))
    case first =>
      have HL1 : Hid (LnAt w1.drew w.heap.size l) := HL0.out
      have HZ1 : Hid (w1.drew.heap[w.heap.size + 1]? = some (.cells (mAr zM) 30 (0, 0))) := HZ0.out
      have HB1 := Lib.hid HB0.out.drew
      have HS1 : Hid (w1.drew.heap.size = w.heap.size + 2) := HS0.out
      refine wp_region_last (fun w' => LnAt w' w.heap.size l ∧ w'.cell? ⟨w.heap.size, 0, none⟩ = some (.int .u8 (l.getD 0 0))) 7 (by kernel_rfl) ⟨HL1.out, by show w1.drew.cell? _ = _; rw [cell_of_row _ _ _ _ _ _ HL1.out]; rfl⟩ ?_
      intro hHeld
      refine wpAnyL_take (i := 0) (v := .agg (lnA l)) rfl (by kernel_rfl) (by kernel_rfl) (by kernel_rfl) (by kernel_rfl) (by kernel_rfl) (fun _ _ _ h => h) (Or.inl ⟨by rfl, ?_⟩) (by assumption) ?_
      · intro wq hSw
        exact run_load_row (x := .tmp 2) rfl rfl hSw.1 rfl Try.underlying23 info_line
      try simp only [Act.put, List.setIfInBounds_toArray, List.set_cons_zero, List.set_cons_succ]
      refine wpAnyL_take (i := 1) (v := ?_) rfl (by kernel_rfl) (by kernel_rfl) (by kernel_rfl) (by kernel_rfl) (by kernel_rfl) (fun _ _ _ h => h) (Or.inl ⟨by rfl, ?_⟩) (by assumption) ?_
      rotate_left
      · intro wq hSw; (try dsimp only at hSw); first | (go_simp; done) | (go_simp; with_reducible rfl) | with_reducible rfl
      try simp only [Act.put, List.setIfInBounds_toArray, List.set_cons_zero, List.set_cons_succ]
      refine wpAnyL_take (i := 2) (v := .int .u8 (l.getD 0 0)) rfl (by kernel_rfl) (by kernel_rfl) (by kernel_rfl) (by kernel_rfl) (by kernel_rfl) (fun _ _ _ h => h) (Or.inl ⟨by rfl, ?_⟩) (by assumption) ?_
      · intro wq hSw
        have hk := hSw.2
        clear hSw
        first | (go_simp; done) | (go_simp; with_reducible rfl) | with_reducible rfl
      try simp only [Act.put, List.setIfInBounds_toArray, List.set_cons_zero, List.set_cons_succ]
      refine wpAnyL_take (i := 3) (v := ?_) rfl (by kernel_rfl) (by kernel_rfl) (by kernel_rfl) (by kernel_rfl) (by kernel_rfl) (fun _ _ _ h => h) (Or.inl ⟨by rfl, ?_⟩) (by assumption) ?_
      rotate_left
      · intro wq hSw; (try dsimp only at hSw); first | (go_simp; done) | (go_simp; with_reducible rfl) | with_reducible rfl
      try simp only [Act.put, List.setIfInBounds_toArray, List.set_cons_zero, List.set_cons_succ]
      refine wpAnyL_ready (rs := [4, 6]) (by kernel_rfl) (by simp) ?_
      refine (AllReadyL.cons rfl (fun K hK => ?_) (AllReadyL.cons rfl (fun K hK => ?_) AllReadyL.nil))
      · go_simp
        go_wp2_with fail
        refine (HCA.out _).mono ?_
        rintro e wq ⟨rfl, rfl⟩
        refine hK.out _ _ hHeld (fun hHeld => ?_)
        clear hK K
        refine wpAnyL_ready (rs := [5, 6]) (by kernel_rfl) (by simp) ?_
        refine (AllReadyL.cons rfl (fun K hK => ?_) (AllReadyL.cons rfl (fun K hK => ?_) AllReadyL.nil))
        · go_simp
          go_wp2_with fail
          refine (HGE.out _).mono ?_
          rintro e w2 ⟨rfl, hb2⟩
          have HL2 := Lib.hid (HL1.out.below hb2 HL1.out.lt)
          have HZ2 := Lib.hid ((hb2.block (w.heap.size + 1) (Array.getElem?_eq_some_iff.1 HZ1.out).1).trans HZ1.out)
          have HB2 := Lib.hid (HB1.out.trans (hb2.mono HB1.out.size))
          refine hK.out _ _ ⟨HL2.out, by show (w2).cell? _ = _; rw [cell_of_row _ _ _ _ _ _ HL2.out]; rfl⟩ (fun hHeld => ?_)
          clear hK K hb2
          refine wpAnyL_ready (rs := [6]) (by kernel_rfl) (by simp) ?_
          refine (AllReadyL.cons rfl (fun K hK => ?_) AllReadyL.nil)
          go_simp
          have HL3 := Lib.hid (HL2.out.alloc (.cells #[.int .i64 0, .int .i64 0, .int .i64 0, .bool false, .bool false, .bool false, .bool false, .int .i64 0, .int .i64 0, .int .u8 0, .int .u8 0, .int .u8 0, .int .u8 0, .int .u8 0, .int .u8 0, .int .u8 0, .int .i64 0, .int .i64 0, .int .i64 0, .int .i64 0, .int .i64 0] 30))
          have HZ3 := Lib.hid ((heap_alloc_old w2 (.cells #[.int .i64 0, .int .i64 0, .int .i64 0, .bool false, .bool false, .bool false, .bool false, .int .i64 0, .int .i64 0, .int .u8 0, .int .u8 0, .int .u8 0, .int .u8 0, .int .u8 0, .int .u8 0, .int .u8 0, .int .i64 0, .int .i64 0, .int .i64 0, .int .i64 0, .int .i64 0] 30) (Array.getElem?_eq_some_iff.1 HZ2.out).1).trans HZ2.out)
          have HM3 : Hid ((w2.alloc (.cells #[.int .i64 0, .int .i64 0, .int .i64 0, .bool false, .bool false, .bool false, .bool false, .int .i64 0, .int .i64 0, .int .u8 0, .int .u8 0, .int .u8 0, .int .u8 0, .int .u8 0, .int .u8 0, .int .u8 0, .int .i64 0, .int .i64 0, .int .i64 0, .int .i64 0, .int .i64 0] 30)).heap[w2.heap.size]? = some (.cells (mAr zM) 30 (0, 0))) := heap_alloc_new w2 (.cells #[.int .i64 0, .int .i64 0, .int .i64 0, .bool false, .bool false, .bool false, .bool false, .int .i64 0, .int .i64 0, .int .u8 0, .int .u8 0, .int .u8 0, .int .u8 0, .int .u8 0, .int .u8 0, .int .u8 0, .int .i64 0, .int .i64 0, .int .i64 0, .int .i64 0, .int .i64 0] 30)
          have HB3 := Lib.hid (HB2.out.alloc HB2.out.size (.cells #[.int .i64 0, .int .i64 0, .int .i64 0, .bool false, .bool false, .bool false, .bool false, .int .i64 0, .int .i64 0, .int .u8 0, .int .u8 0, .int .u8 0, .int .u8 0, .int .u8 0, .int .u8 0, .int .u8 0, .int .i64 0, .int .i64 0, .int .i64 0, .int .i64 0, .int .i64 0] 30))
          have HG3 : Hid (w.heap.size + 2 ≤ w2.heap.size ∧ w2.heap.size < (w2.alloc (.cells #[.int .i64 0, .int .i64 0, .int .i64 0, .bool false, .bool false, .bool false, .bool false, .int .i64 0, .int .i64 0, .int .u8 0, .int .u8 0, .int .u8 0, .int .u8 0, .int .u8 0, .int .u8 0, .int .u8 0, .int .i64 0, .int .i64 0, .int .i64 0, .int .i64 0, .int .i64 0] 30)).heap.size) := ⟨by have := (Array.getElem?_eq_some_iff.1 HZ2.out).1; omega, by show w2.heap.size < (w2.alloc (.cells #[.int .i64 0, .int .i64 0, .int .i64 0, .bool false, .bool false, .bool false, .bool false, .int .i64 0, .int .i64 0, .int .u8 0, .int .u8 0, .int .u8 0, .int .u8 0, .int .u8 0, .int .u8 0, .int .u8 0, .int .i64 0, .int .i64 0, .int .i64 0, .int .i64 0, .int .i64 0] 30)).heap.size; simp⟩
          refine hK.out _ _ ⟨HL3.out, by show (w2.alloc (.cells #[.int .i64 0, .int .i64 0, .int .i64 0, .bool false, .bool false, .bool false, .bool false, .int .i64 0, .int .i64 0, .int .u8 0, .int .u8 0, .int .u8 0, .int .u8 0, .int .u8 0, .int .u8 0, .int .u8 0, .int .i64 0, .int .i64 0, .int .i64 0, .int .i64 0, .int .i64 0] 30)).cell? _ = _; rw [cell_of_row _ _ _ _ _ _ HL3.out]; rfl⟩ (fun hHeld => ?_)
          clear hK K
          refine wpAnyL_ready (rs := [7]) (by kernel_rfl) (by simp) ?_
          refine AllReadyL.last rfl (fun K hK => ?_)
          refine Eq.mpr (if_pos (by kernel_rfl)) ?_
          refine wp_store_row 30 (.tmp 6) (.tmp 14) rfl w2.heap.size (mAr m) rfl rfl _ _ HM3.out info_msg rfl (mAr_one m) ?_
          refine hK.out _ _ ?_
          clear hK K hHeld
          refine wpAnyL_done (by kernel_rfl) ?_ _
          go_wp2_with fail
          go_meet
          exact ⟨w2.heap.size, rfl, setRow_heap _ w2.heap.size _ (mAr m) _ _ HM3.out, (setRow_other _ w2.heap.size w.heap.size (mAr m) (by have := HG3.out; omega)).trans HL3.out, (setRow_other _ w2.heap.size (w.heap.size + 1) (mAr m) (by have := HG3.out; omega)).trans HZ3.out, below_setRow HB3.out (by have := HG3.out; omega) _, HG3.out.1, by rw [size_setRow]; exact HG3.out.2⟩
        · go_simp
          have HL3 := Lib.hid (HL1.out.alloc (.cells #[.int .i64 0, .int .i64 0, .int .i64 0, .bool false, .bool false, .bool false, .bool false, .int .i64 0, .int .i64 0, .int .u8 0, .int .u8 0, .int .u8 0, .int .u8 0, .int .u8 0, .int .u8 0, .int .u8 0, .int .i64 0, .int .i64 0, .int .i64 0, .int .i64 0, .int .i64 0] 30))
          have HZ3 := Lib.hid ((heap_alloc_old w1.drew (.cells #[.int .i64 0, .int .i64 0, .int .i64 0, .bool false, .bool false, .bool false, .bool false, .int .i64 0, .int .i64 0, .int .u8 0, .int .u8 0, .int .u8 0, .int .u8 0, .int .u8 0, .int .u8 0, .int .u8 0, .int .i64 0, .int .i64 0, .int .i64 0, .int .i64 0, .int .i64 0] 30) (Array.getElem?_eq_some_iff.1 HZ1.out).1).trans HZ1.out)
          have HM3 : Hid ((w1.drew.alloc (.cells #[.int .i64 0, .int .i64 0, .int .i64 0, .bool false, .bool false, .bool false, .bool false, .int .i64 0, .int .i64 0, .int .u8 0, .int .u8 0, .int .u8 0, .int .u8 0, .int .u8 0, .int .u8 0, .int .u8 0, .int .i64 0, .int .i64 0, .int .i64 0, .int .i64 0, .int .i64 0] 30)).heap[w1.drew.heap.size]? = some (.cells (mAr zM) 30 (0, 0))) := heap_alloc_new w1.drew (.cells #[.int .i64 0, .int .i64 0, .int .i64 0, .bool false, .bool false, .bool false, .bool false, .int .i64 0, .int .i64 0, .int .u8 0, .int .u8 0, .int .u8 0, .int .u8 0, .int .u8 0, .int .u8 0, .int .u8 0, .int .i64 0, .int .i64 0, .int .i64 0, .int .i64 0, .int .i64 0] 30)
          have HB3 := Lib.hid (HB1.out.alloc HB1.out.size (.cells #[.int .i64 0, .int .i64 0, .int .i64 0, .bool false, .bool false, .bool false, .bool false, .int .i64 0, .int .i64 0, .int .u8 0, .int .u8 0, .int .u8 0, .int .u8 0, .int .u8 0, .int .u8 0, .int .u8 0, .int .i64 0, .int .i64 0, .int .i64 0, .int .i64 0, .int .i64 0] 30))
          have HG3 : Hid (w.heap.size + 2 ≤ w1.drew.heap.size ∧ w1.drew.heap.size < (w1.drew.alloc (.cells #[.int .i64 0, .int .i64 0, .int .i64 0, .bool false, .bool false, .bool false, .bool false, .int .i64 0, .int .i64 0, .int .u8 0, .int .u8 0, .int .u8 0, .int .u8 0, .int .u8 0, .int .u8 0, .int .u8 0, .int .i64 0, .int .i64 0, .int .i64 0, .int .i64 0, .int .i64 0] 30)).heap.size) := ⟨by have := (Array.getElem?_eq_some_iff.1 HZ1.out).1; omega, by show w1.drew.heap.size < (w1.drew.alloc (.cells #[.int .i64 0, .int .i64 0, .int .i64 0, .bool false, .bool false, .bool false, .bool false, .int .i64 0, .int .i64 0, .int .u8 0, .int .u8 0, .int .u8 0, .int .u8 0, .int .u8 0, .int .u8 0, .int .u8 0, .int .i64 0, .int .i64 0, .int .i64 0, .int .i64 0, .int .i64 0] 30)).heap.size; simp⟩
          refine hK.out _ _ ⟨HL3.out, by show (w1.drew.alloc (.cells #[.int .i64 0, .int .i64 0, .int .i64 0, .bool false, .bool false, .bool false, .bool false, .int .i64 0, .int .i64 0, .int .u8 0, .int .u8 0, .int .u8 0, .int .u8 0, .int .u8 0, .int .u8 0, .int .u8 0, .int .i64 0, .int .i64 0, .int .i64 0, .int .i64 0, .int .i64 0] 30)).cell? _ = _; rw [cell_of_row _ _ _ _ _ _ HL3.out]; rfl⟩ (fun hHeld => ?_)
          clear hK K
          refine wpAnyL_ready (rs := [5]) (by kernel_rfl) (by simp) ?_
          refine (AllReadyL.cons rfl (fun K hK => ?_) AllReadyL.nil)
          go_simp
          go_wp2_with fail
          refine (HGE.out _).mono ?_
          rintro e w4 ⟨rfl, hb4⟩
          have HL4 := Lib.hid (HL3.out.below hb4 HL3.out.lt)
          have HZ4 := Lib.hid ((hb4.block (w.heap.size + 1) (Array.getElem?_eq_some_iff.1 HZ3.out).1).trans HZ3.out)
          have HB4 := Lib.hid (HB3.out.trans (hb4.mono HB3.out.size))
          have HG4 : Hid (w.heap.size + 2 ≤ w1.drew.heap.size ∧ w1.drew.heap.size < w4.heap.size) := ⟨HG3.out.1, Nat.lt_of_lt_of_le HG3.out.2 hb4.size⟩
          have HM4 := Lib.hid ((hb4.block (w1.drew.heap.size) HG3.out.2).trans HM3.out)
          refine hK.out _ _ ⟨HL4.out, by show (w4).cell? _ = _; rw [cell_of_row _ _ _ _ _ _ HL4.out]; rfl⟩ (fun hHeld => ?_)
          clear hK K hb4
          refine wpAnyL_ready (rs := [7]) (by kernel_rfl) (by simp) ?_
          refine AllReadyL.last rfl (fun K hK => ?_)
          refine Eq.mpr (if_pos (by kernel_rfl)) ?_
          refine wp_store_row 30 (.tmp 6) (.tmp 14) rfl w1.drew.heap.size (mAr m) rfl rfl _ _ HM4.out info_msg rfl (mAr_one m) ?_
          refine hK.out _ _ ?_
          clear hK K hHeld
          refine wpAnyL_done (by kernel_rfl) ?_ _
          go_wp2_with fail
          go_meet
          exact ⟨w1.drew.heap.size, rfl, setRow_heap _ w1.drew.heap.size _ (mAr m) _ _ HM4.out, (setRow_other _ w1.drew.heap.size w.heap.size (mAr m) (by have := HG4.out; omega)).trans HL4.out, (setRow_other _ w1.drew.heap.size (w.heap.size + 1) (mAr m) (by have := HG4.out; omega)).trans HZ4.out, below_setRow HB4.out (by have := HG4.out; omega) _, HG4.out.1, by rw [size_setRow]; exact HG4.out.2⟩
      · go_simp
        have HL3 := Lib.hid (HL1.out.alloc (.cells #[.int .i64 0, .int .i64 0, .int .i64 0, .bool false, .bool false, .bool false, .bool false, .int .i64 0, .int .i64 0, .int .u8 0, .int .u8 0, .int .u8 0, .int .u8 0, .int .u8 0, .int .u8 0, .int .u8 0, .int .i64 0, .int .i64 0, .int .i64 0, .int .i64 0, .int .i64 0] 30))
        have HZ3 := Lib.hid ((heap_alloc_old w1.drew (.cells #[.int .i64 0, .int .i64 0, .int .i64 0, .bool false, .bool false, .bool false, .bool false, .int .i64 0, .int .i64 0, .int .u8 0, .int .u8 0, .int .u8 0, .int .u8 0, .int .u8 0, .int .u8 0, .int .u8 0, .int .i64 0, .int .i64 0, .int .i64 0, .int .i64 0, .int .i64 0] 30) (Array.getElem?_eq_some_iff.1 HZ1.out).1).trans HZ1.out)
        have HM3 : Hid ((w1.drew.alloc (.cells #[.int .i64 0, .int .i64 0, .int .i64 0, .bool false, .bool false, .bool false, .bool false, .int .i64 0, .int .i64 0, .int .u8 0, .int .u8 0, .int .u8 0, .int .u8 0, .int .u8 0, .int .u8 0, .int .u8 0, .int .i64 0, .int .i64 0, .int .i64 0, .int .i64 0, .int .i64 0] 30)).heap[w1.drew.heap.size]? = some (.cells (mAr zM) 30 (0, 0))) := heap_alloc_new w1.drew (.cells #[.int .i64 0, .int .i64 0, .int .i64 0, .bool false, .bool false, .bool false, .bool false, .int .i64 0, .int .i64 0, .int .u8 0, .int .u8 0, .int .u8 0, .int .u8 0, .int .u8 0, .int .u8 0, .int .u8 0, .int .i64 0, .int .i64 0, .int .i64 0, .int .i64 0, .int .i64 0] 30)
        have HB3 := Lib.hid (HB1.out.alloc HB1.out.size (.cells #[.int .i64 0, .int .i64 0, .int .i64 0, .bool false, .bool false, .bool false, .bool false, .int .i64 0, .int .i64 0, .int .u8 0, .int .u8 0, .int .u8 0, .int .u8 0, .int .u8 0, .int .u8 0, .int .u8 0, .int .i64 0, .int .i64 0, .int .i64 0, .int .i64 0, .int .i64 0] 30))
        have HG3 : Hid (w.heap.size + 2 ≤ w1.drew.heap.size ∧ w1.drew.heap.size < (w1.drew.alloc (.cells #[.int .i64 0, .int .i64 0, .int .i64 0, .bool false, .bool false, .bool false, .bool false, .int .i64 0, .int .i64 0, .int .u8 0, .int .u8 0, .int .u8 0, .int .u8 0, .int .u8 0, .int .u8 0, .int .u8 0, .int .i64 0, .int .i64 0, .int .i64 0, .int .i64 0, .int .i64 0] 30)).heap.size) := ⟨by have := (Array.getElem?_eq_some_iff.1 HZ1.out).1; omega, by show w1.drew.heap.size < (w1.drew.alloc (.cells #[.int .i64 0, .int .i64 0, .int .i64 0, .bool false, .bool false, .bool false, .bool false, .int .i64 0, .int .i64 0, .int .u8 0, .int .u8 0, .int .u8 0, .int .u8 0, .int .u8 0, .int .u8 0, .int .u8 0, .int .i64 0, .int .i64 0, .int .i64 0, .int .i64 0, .int .i64 0] 30)).heap.size; simp⟩
        refine hK.out _ _ ⟨HL3.out, by show (w1.drew.alloc (.cells #[.int .i64 0, .int .i64 0, .int .i64 0, .bool false, .bool false, .bool false, .bool false, .int .i64 0, .int .i64 0, .int .u8 0, .int .u8 0, .int .u8 0, .int .u8 0, .int .u8 0, .int .u8 0, .int .u8 0, .int .i64 0, .int .i64 0, .int .i64 0, .int .i64 0, .int .i64 0] 30)).cell? _ = _; rw [cell_of_row _ _ _ _ _ _ HL3.out]; rfl⟩ (fun hHeld => ?_)
        clear hK K
        refine wpAnyL_ready (rs := [4]) (by kernel_rfl) (by simp) ?_
        refine (AllReadyL.cons rfl (fun K hK => ?_) AllReadyL.nil)
        go_simp
        go_wp2_with fail
        refine (HCA.out _).mono ?_
        rintro e wq ⟨rfl, rfl⟩
        refine hK.out _ _ hHeld (fun hHeld => ?_)
        clear hK K
        refine wpAnyL_ready (rs := [5]) (by kernel_rfl) (by simp) ?_
        refine (AllReadyL.cons rfl (fun K hK => ?_) AllReadyL.nil)
        go_simp
        go_wp2_with fail
        refine (HGE.out _).mono ?_
        rintro e w4 ⟨rfl, hb4⟩
        have HL4 := Lib.hid (HL3.out.below hb4 HL3.out.lt)
        have HZ4 := Lib.hid ((hb4.block (w.heap.size + 1) (Array.getElem?_eq_some_iff.1 HZ3.out).1).trans HZ3.out)
        have HB4 := Lib.hid (HB3.out.trans (hb4.mono HB3.out.size))
        have HG4 : Hid (w.heap.size + 2 ≤ w1.drew.heap.size ∧ w1.drew.heap.size < w4.heap.size) := ⟨HG3.out.1, Nat.lt_of_lt_of_le HG3.out.2 hb4.size⟩
        have HM4 := Lib.hid ((hb4.block (w1.drew.heap.size) HG3.out.2).trans HM3.out)
        refine hK.out _ _ ⟨HL4.out, by show (w4).cell? _ = _; rw [cell_of_row _ _ _ _ _ _ HL4.out]; rfl⟩ (fun hHeld => ?_)
        clear hK K hb4
        refine wpAnyL_ready (rs := [7]) (by kernel_rfl) (by simp) ?_
        refine AllReadyL.last rfl (fun K hK => ?_)
        refine Eq.mpr (if_pos (by kernel_rfl)) ?_
        refine wp_store_row 30 (.tmp 6) (.tmp 14) rfl w1.drew.heap.size (mAr m) rfl rfl _ _ HM4.out info_msg rfl (mAr_one m) ?_
        refine hK.out _ _ ?_
        clear hK K hHeld
        refine wpAnyL_done (by kernel_rfl) ?_ _
        go_wp2_with fail
        go_meet
        exact ⟨w1.drew.heap.size, rfl, setRow_heap _ w1.drew.heap.size _ (mAr m) _ _ HM4.out, (setRow_other _ w1.drew.heap.size w.heap.size (mAr m) (by have := HG4.out; omega)).trans HL4.out, (setRow_other _ w1.drew.heap.size (w.heap.size + 1) (mAr m) (by have := HG4.out; omega)).trans HZ4.out, below_setRow HB4.out (by have := HG4.out; omega) _, HG4.out.1, by rw [size_setRow]; exact HG4.out.2⟩
    case rest =>
      obtain ⟨g, rfl, HM4, HL4, HZ4, HB4, HG4⟩ := hcut
      clear HL0 HZ0 HB0 HS0 HCA HGE
      go_wp2_with (refine wpList_load_row rfl 30 (.tmp 6) rfl g rfl _ _ _ _ HM4.out Try.underlying30 rfl info_msg ?_)
      refine (HEN.out _).mono ?_
      rintro e w4 ⟨rfl, hb5⟩
      have HS5 : Hid (w.heap.size + 2 ≤ g ∧ g < w4.heap.size) := ⟨HG4.out.1, Nat.lt_of_lt_of_le HG4.out.2 hb5.size⟩
      have HL5 := Lib.hid (LnAt.alloc (HL4.out.below hb5 HL4.out.lt) (.cells #[.int .u8 0, .int .u8 0, .int .u8 0, .int .u8 0, .int .u8 0, .int .u8 0, .int .u8 0, .int .u8 0] 23))
      have HZ5 := Lib.hid ((heap_alloc_old w4 (.cells #[.int .u8 0, .int .u8 0, .int .u8 0, .int .u8 0, .int .u8 0, .int .u8 0, .int .u8 0, .int .u8 0] 23) (by have := HS5.out; omega)).trans ((hb5.block (w.heap.size + 1) (by have := HG4.out; omega)).trans HZ4.out))
      have HM5 := Lib.hid ((heap_alloc_old w4 (.cells #[.int .u8 0, .int .u8 0, .int .u8 0, .int .u8 0, .int .u8 0, .int .u8 0, .int .u8 0, .int .u8 0] 23) HS5.out.2).trans ((hb5.block g HG4.out.2).trans HM4.out))
      have HN5 := Lib.hid (ln_zero w4)
      have HB5 := Lib.hid ((HB4.out.trans (hb5.mono HB4.out.size)).alloc (by have := HS5.out; omega) (.cells #[.int .u8 0, .int .u8 0, .int .u8 0, .int .u8 0, .int .u8 0, .int .u8 0, .int .u8 0, .int .u8 0] 23))
      clear hb5 HL4 HZ4 HM4 HB4 HG4
      have hcm := HCM.out
      go_wp2_with (first
        | (refine wpList_store_row rfl _ (.tmp 7) (.tmp 18) rfl w4.heap.size (lnA L) rfl rfl _ _ HN5.out info_line rfl (ln_one _) ?_)
        | (refine wpList_step (fun K hK => Eq.mpr (if_pos (by kernel_rfl)) (wp_load_row 23 (.tmp 7) rfl w4.heap.size rfl _ _ _ _ (setRow_heap _ _ _ (lnA L) _ _ HN5.out) Try.underlying23 rfl info_line (hK _ _ ?_))))
        | (refine wpList_step (fun K hK => Eq.mpr (if_pos (by kernel_rfl)) (wp_load_row 23 (.tmp 2) rfl w.heap.size rfl _ _ _ _ ((setRow_other _ w4.heap.size _ (lnA L) (by have := HS5.out; omega)).trans HL5.out) Try.underlying23 rfl info_line (hK _ _ ?_))))
        | (refine wpList_load_row rfl 30 (.tmp 6) rfl g rfl _ _ _ _ ((setRow_other _ w4.heap.size _ (lnA L) (by have := HS5.out; omega)).trans HM5.out) Try.underlying30 rfl info_msg ?_)
        | (refine wpList_store_row rfl _ (.tmp 4) (.tmp 27) rfl (w.heap.size + 1) (mAr zM) rfl rfl _ _ ((setRow_other _ w4.heap.size _ (lnA L) (by have := HS5.out; omega)).trans HZ5.out) info_msg rfl (mAr_one _) ?_)
        | (refine wpList_store_row rfl _ (.tmp 4) (.tmp 28) rfl (w.heap.size + 1) (mAr m) rfl rfl _ _ ((setRow_other _ w4.heap.size _ (lnA L) (by have := HS5.out; omega)).trans HZ5.out) info_msg rfl (mAr_one _) ?_))
      exact bodyPost_ret ((results_cell_tmp_row rfl _ _ (w.heap.size + 1) _ _ _ _ rfl (setRow_heap _ _ _ (mAr zM) _ _ ((setRow_other _ w4.heap.size _ (lnA L) (by have := HS5.out; omega)).trans HZ5.out)) Try.underlying30 rfl info_msg).trans (by rfl)) rfl ⟨rfl, below_setRow (below_setRow HB5.out (by have := HS5.out; omega) _) (show w.heap.size ≤ w.heap.size + 1 by omega) _⟩
  case true =>
    rw [if_pos ⟨rfl, rfl⟩]
    generalize cmdE (l.getD 0 0) ans = cc at hca hge
    have HL0 := Lib.hid hl0
    have HZ0 := Lib.hid hz0
    have HB0 := Lib.hid hb0
    have HS0 := Lib.hid hs0
    have HCA := Lib.hid hca
    have HGE := Lib.hid hge
    have HEN := Lib.hid hen
    have HCM := Lib.hid hcm
    clear hl0 hz0 hb0 hs0 hca hge hen hcm hmb hdec hp hq hm hl
    go_enter Try.func4, Try.ntmps4
    go_upto_region 1 with fail
    generalize ((w.alloc (.cells (lnA l) 23)).alloc (.cells #[.int .i64 0, .int .i64 0, .int .i64 0, .bool false, .bool false, .bool false, .bool false, .int .i64 0, .int .i64 0, .int .u8 0, .int .u8 0, .int .u8 0, .int .u8 0, .int .u8 0, .int .u8 0, .int .u8 0, .int .i64 0, .int .i64 0, .int .i64 0, .int .i64 0, .int .i64 0] 30)) = w1 at *
    go_cut [6] from 9 to 14 (fun s6 wx => ∃ g : Nat, s6 = .pointer (some ⟨g, 0, none⟩) ∧ Hid (wx.heap[g]? = some (.cells (mAr m) 30 (0, 0))) ∧ Hid (LnAt wx w.heap.size l) ∧ Hid (wx.heap[w.heap.size + 1]? = some (.cells (mAr zM) 30 (0, 0))) ∧ Hid (Below w.heap.size w wx) ∧ Hid (w.heap.size + 2 ≤ g ∧ g < wx.heap.size))
    case first =>
      have HL1 : Hid (LnAt w1.drew w.heap.size l) := HL0.out
      have HZ1 : Hid (w1.drew.heap[w.heap.size + 1]? = some (.cells (mAr zM) 30 (0, 0))) := HZ0.out
      have HB1 := Lib.hid HB0.out.drew
      have HS1 : Hid (w1.drew.heap.size = w.heap.size + 2) := HS0.out
      refine wp_region_last (fun w' => LnAt w' w.heap.size l ∧ w'.cell? ⟨w.heap.size, 0, none⟩ = some (.int .u8 (l.getD 0 0))) 7 (by kernel_rfl) ⟨HL1.out, by show w1.drew.cell? _ = _; rw [cell_of_row _ _ _ _ _ _ HL1.out]; rfl⟩ ?_
      intro hHeld
      refine wpAnyL_take (i := 0) (v := .agg (lnA l)) rfl (by kernel_rfl) (by kernel_rfl) (by kernel_rfl) (by kernel_rfl) (by kernel_rfl) (fun _ _ _ h => h) (Or.inl ⟨by rfl, ?_⟩) (by assumption) ?_
      · intro wq hSw
        exact run_load_row (x := .tmp 2) rfl rfl hSw.1 rfl Try.underlying23 info_line
      try simp only [Act.put, List.setIfInBounds_toArray, List.set_cons_zero, List.set_cons_succ]
      refine wpAnyL_take (i := 1) (v := ?_) rfl (by kernel_rfl) (by kernel_rfl) (by kernel_rfl) (by kernel_rfl) (by kernel_rfl) (fun _ _ _ h => h) (Or.inl ⟨by rfl, ?_⟩) (by assumption) ?_
      rotate_left
      · intro wq hSw; (try dsimp only at hSw); first | (go_simp; done) | (go_simp; with_reducible rfl) | with_reducible rfl
      try simp only [Act.put, List.setIfInBounds_toArray, List.set_cons_zero, List.set_cons_succ]
      refine wpAnyL_take (i := 2) (v := .int .u8 (l.getD 0 0)) rfl (by kernel_rfl) (by kernel_rfl) (by kernel_rfl) (by kernel_rfl) (by kernel_rfl) (fun _ _ _ h => h) (Or.inl ⟨by rfl, ?_⟩) (by assumption) ?_
      · intro wq hSw
        have hk := hSw.2
        clear hSw
        first | (go_simp; done) | (go_simp; with_reducible rfl) | with_reducible rfl
      try simp only [Act.put, List.setIfInBounds_toArray, List.set_cons_zero, List.set_cons_succ]
      refine wpAnyL_take (i := 3) (v := ?_) rfl (by kernel_rfl) (by kernel_rfl) (by kernel_rfl) (by kernel_rfl) (by kernel_rfl) (fun _ _ _ h => h) (Or.inl ⟨by rfl, ?_⟩) (by assumption) ?_
      rotate_left
      · intro wq hSw; (try dsimp only at hSw); first | (go_simp; done) | (go_simp; with_reducible rfl) | with_reducible rfl
      try simp only [Act.put, List.setIfInBounds_toArray, List.set_cons_zero, List.set_cons_succ]
      refine wpAnyL_ready (rs := [4, 6]) (by kernel_rfl) (by simp) ?_
      refine (AllReadyL.cons rfl (fun K hK => ?_) (AllReadyL.cons rfl (fun K hK => ?_) AllReadyL.nil))
      · go_simp
        go_wp2_with fail
        refine (HCA.out _).mono ?_
        rintro e wq ⟨rfl, rfl⟩
        refine hK.out _ _ hHeld (fun hHeld => ?_)
        clear hK K
        refine wpAnyL_ready (rs := [5, 6]) (by kernel_rfl) (by simp) ?_
        refine (AllReadyL.cons rfl (fun K hK => ?_) (AllReadyL.cons rfl (fun K hK => ?_) AllReadyL.nil))
        · go_simp
          go_wp2_with fail
          refine (HGE.out _).mono ?_
          rintro e w2 ⟨rfl, hb2⟩
          have HL2 := Lib.hid (HL1.out.below hb2 HL1.out.lt)
          have HZ2 := Lib.hid ((hb2.block (w.heap.size + 1) (Array.getElem?_eq_some_iff.1 HZ1.out).1).trans HZ1.out)
          have HB2 := Lib.hid (HB1.out.trans (hb2.mono HB1.out.size))
          refine hK.out _ _ ⟨HL2.out, by show (w2).cell? _ = _; rw [cell_of_row _ _ _ _ _ _ HL2.out]; rfl⟩ (fun hHeld => ?_)
          clear hK K hb2
          refine wpAnyL_ready (rs := [6]) (by kernel_rfl) (by simp) ?_
          refine (AllReadyL.cons rfl (fun K hK => ?_) AllReadyL.nil)
          go_simp
          have HL3 := Lib.hid (HL2.out.alloc (.cells #[.int .i64 0, .int .i64 0, .int .i64 0, .bool false, .bool false, .bool false, .bool false, .int .i64 0, .int .i64 0, .int .u8 0, .int .u8 0, .int .u8 0, .int .u8 0, .int .u8 0, .int .u8 0, .int .u8 0, .int .i64 0, .int .i64 0, .int .i64 0, .int .i64 0, .int .i64 0] 30))
          have HZ3 := Lib.hid ((heap_alloc_old w2 (.cells #[.int .i64 0, .int .i64 0, .int .i64 0, .bool false, .bool false, .bool false, .bool false, .int .i64 0, .int .i64 0, .int .u8 0, .int .u8 0, .int .u8 0, .int .u8 0, .int .u8 0, .int .u8 0, .int .u8 0, .int .i64 0, .int .i64 0, .int .i64 0, .int .i64 0, .int .i64 0] 30) (Array.getElem?_eq_some_iff.1 HZ2.out).1).trans HZ2.out)
          have HM3 : Hid ((w2.alloc (.cells #[.int .i64 0, .int .i64 0, .int .i64 0, .bool false, .bool false, .bool false, .bool false, .int .i64 0, .int .i64 0, .int .u8 0, .int .u8 0, .int .u8 0, .int .u8 0, .int .u8 0, .int .u8 0, .int .u8 0, .int .i64 0, .int .i64 0, .int .i64 0, .int .i64 0, .int .i64 0] 30)).heap[w2.heap.size]? = some (.cells (mAr zM) 30 (0, 0))) := heap_alloc_new w2 (.cells #[.int .i64 0, .int .i64 0, .int .i64 0, .bool false, .bool false, .bool false, .bool false, .int .i64 0, .int .i64 0, .int .u8 0, .int .u8 0, .int .u8 0, .int .u8 0, .int .u8 0, .int .u8 0, .int .u8 0, .int .i64 0, .int .i64 0, .int .i64 0, .int .i64 0, .int .i64 0] 30)
          have HB3 := Lib.hid (HB2.out.alloc HB2.out.size (.cells #[.int .i64 0, .int .i64 0, .int .i64 0, .bool false, .bool false, .bool false, .bool false, .int .i64 0, .int .i64 0, .int .u8 0, .int .u8 0, .int .u8 0, .int .u8 0, .int .u8 0, .int .u8 0, .int .u8 0, .int .i64 0, .int .i64 0, .int .i64 0, .int .i64 0, .int .i64 0] 30))
          have HG3 : Hid (w.heap.size + 2 ≤ w2.heap.size ∧ w2.heap.size < (w2.alloc (.cells #[.int .i64 0, .int .i64 0, .int .i64 0, .bool false, .bool false, .bool false, .bool false, .int .i64 0, .int .i64 0, .int .u8 0, .int .u8 0, .int .u8 0, .int .u8 0, .int .u8 0, .int .u8 0, .int .u8 0, .int .i64 0, .int .i64 0, .int .i64 0, .int .i64 0, .int .i64 0] 30)).heap.size) := ⟨by have := (Array.getElem?_eq_some_iff.1 HZ2.out).1; omega, by show w2.heap.size < (w2.alloc (.cells #[.int .i64 0, .int .i64 0, .int .i64 0, .bool false, .bool false, .bool false, .bool false, .int .i64 0, .int .i64 0, .int .u8 0, .int .u8 0, .int .u8 0, .int .u8 0, .int .u8 0, .int .u8 0, .int .u8 0, .int .i64 0, .int .i64 0, .int .i64 0, .int .i64 0, .int .i64 0] 30)).heap.size; simp⟩
          refine hK.out _ _ ⟨HL3.out, by show (w2.alloc (.cells #[.int .i64 0, .int .i64 0, .int .i64 0, .bool false, .bool false, .bool false, .bool false, .int .i64 0, .int .i64 0, .int .u8 0, .int .u8 0, .int .u8 0, .int .u8 0, .int .u8 0, .int .u8 0, .int .u8 0, .int .i64 0, .int .i64 0, .int .i64 0, .int .i64 0, .int .i64 0] 30)).cell? _ = _; rw [cell_of_row _ _ _ _ _ _ HL3.out]; rfl⟩ (fun hHeld => ?_)
          clear hK K
          refine wpAnyL_ready (rs := [7]) (by kernel_rfl) (by simp) ?_
          refine AllReadyL.last rfl (fun K hK => ?_)
          refine Eq.mpr (if_pos (by kernel_rfl)) ?_
          refine wp_store_row 30 (.tmp 6) (.tmp 14) rfl w2.heap.size (mAr m) rfl rfl _ _ HM3.out info_msg rfl (mAr_one m) ?_
          refine hK.out _ _ ?_
          clear hK K hHeld
          refine wpAnyL_done (by kernel_rfl) ?_ _
          go_wp2_with fail
          go_meet
          exact ⟨w2.heap.size, rfl, setRow_heap _ w2.heap.size _ (mAr m) _ _ HM3.out, (setRow_other _ w2.heap.size w.heap.size (mAr m) (by have := HG3.out; omega)).trans HL3.out, (setRow_other _ w2.heap.size (w.heap.size + 1) (mAr m) (by have := HG3.out; omega)).trans HZ3.out, below_setRow HB3.out (by have := HG3.out; omega) _, HG3.out.1, by rw [size_setRow]; exact HG3.out.2⟩
        · go_simp
          have HL3 := Lib.hid (HL1.out.alloc (.cells #[.int .i64 0, .int .i64 0, .int .i64 0, .bool false, .bool false, .bool false, .bool false, .int .i64 0, .int .i64 0, .int .u8 0, .int .u8 0, .int .u8 0, .int .u8 0, .int .u8 0, .int .u8 0, .int .u8 0, .int .i64 0, .int .i64 0, .int .i64 0, .int .i64 0, .int .i64 0] 30))
          have HZ3 := Lib.hid ((heap_alloc_old w1.drew (.cells #[.int .i64 0, .int .i64 0, .int .i64 0, .bool false, .bool false, .bool false, .bool false, .int .i64 0, .int .i64 0, .int .u8 0, .int .u8 0, .int .u8 0, .int .u8 0, .int .u8 0, .int .u8 0, .int .u8 0, .int .i64 0, .int .i64 0, .int .i64 0, .int .i64 0, .int .i64 0] 30) (Array.getElem?_eq_some_iff.1 HZ1.out).1).trans HZ1.out)
          have HM3 : Hid ((w1.drew.alloc (.cells #[.int .i64 0, .int .i64 0, .int .i64 0, .bool false, .bool false, .bool false, .bool false, .int .i64 0, .int .i64 0, .int .u8 0, .int .u8 0, .int .u8 0, .int .u8 0, .int .u8 0, .int .u8 0, .int .u8 0, .int .i64 0, .int .i64 0, .int .i64 0, .int .i64 0, .int .i64 0] 30)).heap[w1.drew.heap.size]? = some (.cells (mAr zM) 30 (0, 0))) := heap_alloc_new w1.drew (.cells #[.int .i64 0, .int .i64 0, .int .i64 0, .bool false, .bool false, .bool false, .bool false, .int .i64 0, .int .i64 0, .int .u8 0, .int .u8 0, .int .u8 0, .int .u8 0, .int .u8 0, .int .u8 0, .int .u8 0, .int .i64 0, .int .i64 0, .int .i64 0, .int .i64 0, .int .i64 0] 30)
          have HB3 := Lib.hid (HB1.out.alloc HB1.out.size (.cells #[.int .i64 0, .int .i64 0, .int .i64 0, .bool false, .bool false, .bool false, .bool false, .int .i64 0, .int .i64 0, .int .u8 0, .int .u8 0, .int .u8 0, .int .u8 0, .int .u8 0, .int .u8 0, .int .u8 0, .int .i64 0, .int .i64 0, .int .i64 0, .int .i64 0, .int .i64 0] 30))
          have HG3 : Hid (w.heap.size + 2 ≤ w1.drew.heap.size ∧ w1.drew.heap.size < (w1.drew.alloc (.cells #[.int .i64 0, .int .i64 0, .int .i64 0, .bool false, .bool false, .bool false, .bool false, .int .i64 0, .int .i64 0, .int .u8 0, .int .u8 0, .int .u8 0, .int .u8 0, .int .u8 0, .int .u8 0, .int .u8 0, .int .i64 0, .int .i64 0, .int .i64 0, .int .i64 0, .int .i64 0] 30)).heap.size) := ⟨by have := (Array.getElem?_eq_some_iff.1 HZ1.out).1; omega, by show w1.drew.heap.size < (w1.drew.alloc (.cells #[.int .i64 0, .int .i64 0, .int .i64 0, .bool false, .bool false, .bool false, .bool false, .int .i64 0, .int .i64 0, .int .u8 0, .int .u8 0, .int .u8 0, .int .u8 0, .int .u8 0, .int .u8 0, .int .u8 0, .int .i64 0, .int .i64 0, .int .i64 0, .int .i64 0, .int .i64 0] 30)).heap.size; simp⟩
          refine hK.out _ _ ⟨HL3.out, by show (w1.drew.alloc (.cells #[.int .i64 0, .int .i64 0, .int .i64 0, .bool false, .bool false, .bool false, .bool false, .int .i64 0, .int .i64 0, .int .u8 0, .int .u8 0, .int .u8 0, .int .u8 0, .int .u8 0, .int .u8 0, .int .u8 0, .int .i64 0, .int .i64 0, .int .i64 0, .int .i64 0, .int .i64 0] 30)).cell? _ = _; rw [cell_of_row _ _ _ _ _ _ HL3.out]; rfl⟩ (fun hHeld => ?_)
          clear hK K
          refine wpAnyL_ready (rs := [5]) (by kernel_rfl) (by simp) ?_
          refine (AllReadyL.cons rfl (fun K hK => ?_) AllReadyL.nil)
          go_simp
          go_wp2_with fail
          refine (HGE.out _).mono ?_
          rintro e w4 ⟨rfl, hb4⟩
          have HL4 := Lib.hid (HL3.out.below hb4 HL3.out.lt)
          have HZ4 := Lib.hid ((hb4.block (w.heap.size + 1) (Array.getElem?_eq_some_iff.1 HZ3.out).1).trans HZ3.out)
          have HB4 := Lib.hid (HB3.out.trans (hb4.mono HB3.out.size))
          have HG4 : Hid (w.heap.size + 2 ≤ w1.drew.heap.size ∧ w1.drew.heap.size < w4.heap.size) := ⟨HG3.out.1, Nat.lt_of_lt_of_le HG3.out.2 hb4.size⟩
          have HM4 := Lib.hid ((hb4.block (w1.drew.heap.size) HG3.out.2).trans HM3.out)
          refine hK.out _ _ ⟨HL4.out, by show (w4).cell? _ = _; rw [cell_of_row _ _ _ _ _ _ HL4.out]; rfl⟩ (fun hHeld => ?_)
          clear hK K hb4
          refine wpAnyL_ready (rs := [7]) (by kernel_rfl) (by simp) ?_
          refine AllReadyL.last rfl (fun K hK => ?_)
          refine Eq.mpr (if_pos (by kernel_rfl)) ?_
          refine wp_store_row 30 (.tmp 6) (.tmp 14) rfl w1.drew.heap.size (mAr m) rfl rfl _ _ HM4.out info_msg rfl (mAr_one m) ?_
          refine hK.out _ _ ?_
          clear hK K hHeld
          refine wpAnyL_done (by kernel_rfl) ?_ _
          go_wp2_with fail
          go_meet
          exact ⟨w1.drew.heap.size, rfl, setRow_heap _ w1.drew.heap.size _ (mAr m) _ _ HM4.out, (setRow_other _ w1.drew.heap.size w.heap.size (mAr m) (by have := HG4.out; omega)).trans HL4.out, (setRow_other _ w1.drew.heap.size (w.heap.size + 1) (mAr m) (by have := HG4.out; omega)).trans HZ4.out, below_setRow HB4.out (by have := HG4.out; omega) _, HG4.out.1, by rw [size_setRow]; exact HG4.out.2⟩
      · go_simp
        have HL3 := Lib.hid (HL1.out.alloc (.cells #[.int .i64 0, .int .i64 0, .int .i64 0, .bool false, .bool false, .bool false, .bool false, .int .i64 0, .int .i64 0, .int .u8 0, .int .u8 0, .int .u8 0, .int .u8 0, .int .u8 0, .int .u8 0, .int .u8 0, .int .i64 0, .int .i64 0, .int .i64 0, .int .i64 0, .int .i64 0] 30))
        have HZ3 := Lib.hid ((heap_alloc_old w1.drew (.cells #[.int .i64 0, .int .i64 0, .int .i64 0, .bool false, .bool false, .bool false, .bool false, .int .i64 0, .int .i64 0, .int .u8 0, .int .u8 0, .int .u8 0, .int .u8 0, .int .u8 0, .int .u8 0, .int .u8 0, .int .i64 0, .int .i64 0, .int .i64 0, .int .i64 0, .int .i64 0] 30) (Array.getElem?_eq_some_iff.1 HZ1.out).1).trans HZ1.out)
        have HM3 : Hid ((w1.drew.alloc (.cells #[.int .i64 0, .int .i64 0, .int .i64 0, .bool false, .bool false, .bool false, .bool false, .int .i64 0, .int .i64 0, .int .u8 0, .int .u8 0, .int .u8 0, .int .u8 0, .int .u8 0, .int .u8 0, .int .u8 0, .int .i64 0, .int .i64 0, .int .i64 0, .int .i64 0, .int .i64 0] 30)).heap[w1.drew.heap.size]? = some (.cells (mAr zM) 30 (0, 0))) := heap_alloc_new w1.drew (.cells #[.int .i64 0, .int .i64 0, .int .i64 0, .bool false, .bool false, .bool false, .bool false, .int .i64 0, .int .i64 0, .int .u8 0, .int .u8 0, .int .u8 0, .int .u8 0, .int .u8 0, .int .u8 0, .int .u8 0, .int .i64 0, .int .i64 0, .int .i64 0, .int .i64 0, .int .i64 0] 30)
        have HB3 := Lib.hid (HB1.out.alloc HB1.out.size (.cells #[.int .i64 0, .int .i64 0, .int .i64 0, .bool false, .bool false, .bool false, .bool false, .int .i64 0, .int .i64 0, .int .u8 0, .int .u8 0, .int .u8 0, .int .u8 0, .int .u8 0, .int .u8 0, .int .u8 0, .int .i64 0, .int .i64 0, .int .i64 0, .int .i64 0, .int .i64 0] 30))
        have HG3 : Hid (w.heap.size + 2 ≤ w1.drew.heap.size ∧ w1.drew.heap.size < (w1.drew.alloc (.cells #[.int .i64 0, .int .i64 0, .int .i64 0, .bool false, .bool false, .bool false, .bool false, .int .i64 0, .int .i64 0, .int .u8 0, .int .u8 0, .int .u8 0, .int .u8 0, .int .u8 0, .int .u8 0, .int .u8 0, .int .i64 0, .int .i64 0, .int .i64 0, .int .i64 0, .int .i64 0] 30)).heap.size) := ⟨by have := (Array.getElem?_eq_some_iff.1 HZ1.out).1; omega, by show w1.drew.heap.size < (w1.drew.alloc (.cells #[.int .i64 0, .int .i64 0, .int .i64 0, .bool false, .bool false, .bool false, .bool false, .int .i64 0, .int .i64 0, .int .u8 0, .int .u8 0, .int .u8 0, .int .u8 0, .int .u8 0, .int .u8 0, .int .u8 0, .int .i64 0, .int .i64 0, .int .i64 0, .int .i64 0, .int .i64 0] 30)).heap.size; simp⟩
        refine hK.out _ _ ⟨HL3.out, by show (w1.drew.alloc (.cells #[.int .i64 0, .int .i64 0, .int .i64 0, .bool false, .bool false, .bool false, .bool false, .int .i64 0, .int .i64 0, .int .u8 0, .int .u8 0, .int .u8 0, .int .u8 0, .int .u8 0, .int .u8 0, .int .u8 0, .int .i64 0, .int .i64 0, .int .i64 0, .int .i64 0, .int .i64 0] 30)).cell? _ = _; rw [cell_of_row _ _ _ _ _ _ HL3.out]; rfl⟩ (fun hHeld => ?_)
        clear hK K
        refine wpAnyL_ready (rs := [4]) (by kernel_rfl) (by simp) ?_
        refine (AllReadyL.cons rfl (fun K hK => ?_) AllReadyL.nil)
        go_simp
        go_wp2_with fail
        refine (HCA.out _).mono ?_
        rintro e wq ⟨rfl, rfl⟩
        refine hK.out _ _ hHeld (fun hHeld => ?_)
        clear hK K
        refine wpAnyL_ready (rs := [5]) (by kernel_rfl) (by simp) ?_
        refine (AllReadyL.cons rfl (fun K hK => ?_) AllReadyL.nil)
        go_simp
        go_wp2_with fail
        refine (HGE.out _).mono ?_
        rintro e w4 ⟨rfl, hb4⟩
        have HL4 := Lib.hid (HL3.out.below hb4 HL3.out.lt)
        have HZ4 := Lib.hid ((hb4.block (w.heap.size + 1) (Array.getElem?_eq_some_iff.1 HZ3.out).1).trans HZ3.out)
        have HB4 := Lib.hid (HB3.out.trans (hb4.mono HB3.out.size))
        have HG4 : Hid (w.heap.size + 2 ≤ w1.drew.heap.size ∧ w1.drew.heap.size < w4.heap.size) := ⟨HG3.out.1, Nat.lt_of_lt_of_le HG3.out.2 hb4.size⟩
        have HM4 := Lib.hid ((hb4.block (w1.drew.heap.size) HG3.out.2).trans HM3.out)
        refine hK.out _ _ ⟨HL4.out, by show (w4).cell? _ = _; rw [cell_of_row _ _ _ _ _ _ HL4.out]; rfl⟩ (fun hHeld => ?_)
        clear hK K hb4
        refine wpAnyL_ready (rs := [7]) (by kernel_rfl) (by simp) ?_
        refine AllReadyL.last rfl (fun K hK => ?_)
        refine Eq.mpr (if_pos (by kernel_rfl)) ?_
        refine wp_store_row 30 (.tmp 6) (.tmp 14) rfl w1.drew.heap.size (mAr m) rfl rfl _ _ HM4.out info_msg rfl (mAr_one m) ?_
        refine hK.out _ _ ?_
        clear hK K hHeld
        refine wpAnyL_done (by kernel_rfl) ?_ _
        go_wp2_with fail
        go_meet
        exact ⟨w1.drew.heap.size, rfl, setRow_heap _ w1.drew.heap.size _ (mAr m) _ _ HM4.out, (setRow_other _ w1.drew.heap.size w.heap.size (mAr m) (by have := HG4.out; omega)).trans HL4.out, (setRow_other _ w1.drew.heap.size (w.heap.size + 1) (mAr m) (by have := HG4.out; omega)).trans HZ4.out, below_setRow HB4.out (by have := HG4.out; omega) _, HG4.out.1, by rw [size_setRow]; exact HG4.out.2⟩
    case rest =>
      obtain ⟨g, rfl, HM4, HL4, HZ4, HB4, HG4⟩ := hcut
      clear HL0 HZ0 HB0 HS0 HCA HGE
      go_wp2_with (refine wpList_load_row rfl 30 (.tmp 6) rfl g rfl _ _ _ _ HM4.out Try.underlying30 rfl info_msg ?_)
      refine (HEN.out _).mono ?_
      rintro e w4 ⟨rfl, hb5⟩
      have HS5 : Hid (w.heap.size + 2 ≤ g ∧ g < w4.heap.size) := ⟨HG4.out.1, Nat.lt_of_lt_of_le HG4.out.2 hb5.size⟩
      have HL5 := Lib.hid (LnAt.alloc (HL4.out.below hb5 HL4.out.lt) (.cells #[.int .u8 0, .int .u8 0, .int .u8 0, .int .u8 0, .int .u8 0, .int .u8 0, .int .u8 0, .int .u8 0] 23))
      have HZ5 := Lib.hid ((heap_alloc_old w4 (.cells #[.int .u8 0, .int .u8 0, .int .u8 0, .int .u8 0, .int .u8 0, .int .u8 0, .int .u8 0, .int .u8 0] 23) (by have := HS5.out; omega)).trans ((hb5.block (w.heap.size + 1) (by have := HG4.out; omega)).trans HZ4.out))
      have HM5 := Lib.hid ((heap_alloc_old w4 (.cells #[.int .u8 0, .int .u8 0, .int .u8 0, .int .u8 0, .int .u8 0, .int .u8 0, .int .u8 0, .int .u8 0] 23) HS5.out.2).trans ((hb5.block g HG4.out.2).trans HM4.out))
      have HN5 := Lib.hid (ln_zero w4)
      have HB5 := Lib.hid ((HB4.out.trans (hb5.mono HB4.out.size)).alloc (by have := HS5.out; omega) (.cells #[.int .u8 0, .int .u8 0, .int .u8 0, .int .u8 0, .int .u8 0, .int .u8 0, .int .u8 0, .int .u8 0] 23))
      clear hb5 HL4 HZ4 HM4 HB4 HG4
      have hcm := HCM.out
      go_wp2_with (first
        | (refine wpList_store_row rfl _ (.tmp 7) (.tmp 18) rfl w4.heap.size (lnA L) rfl rfl _ _ HN5.out info_line rfl (ln_one _) ?_)
        | (refine wpList_step (fun K hK => Eq.mpr (if_pos (by kernel_rfl)) (wp_load_row 23 (.tmp 7) rfl w4.heap.size rfl _ _ _ _ (setRow_heap _ _ _ (lnA L) _ _ HN5.out) Try.underlying23 rfl info_line (hK _ _ ?_))))
        | (refine wpList_step (fun K hK => Eq.mpr (if_pos (by kernel_rfl)) (wp_load_row 23 (.tmp 2) rfl w.heap.size rfl _ _ _ _ ((setRow_other _ w4.heap.size _ (lnA L) (by have := HS5.out; omega)).trans HL5.out) Try.underlying23 rfl info_line (hK _ _ ?_))))
        | (refine wpList_load_row rfl 30 (.tmp 6) rfl g rfl _ _ _ _ ((setRow_other _ w4.heap.size _ (lnA L) (by have := HS5.out; omega)).trans HM5.out) Try.underlying30 rfl info_msg ?_)
        | (refine wpList_store_row rfl _ (.tmp 4) (.tmp 27) rfl (w.heap.size + 1) (mAr zM) rfl rfl _ _ ((setRow_other _ w4.heap.size _ (lnA L) (by have := HS5.out; omega)).trans HZ5.out) info_msg rfl (mAr_one _) ?_)
        | (refine wpList_store_row rfl _ (.tmp 4) (.tmp 28) rfl (w.heap.size + 1) (mAr m) rfl rfl _ _ ((setRow_other _ w4.heap.size _ (lnA L) (by have := HS5.out; omega)).trans HZ5.out) info_msg rfl (mAr_one _) ?_))
      exact bodyPost_ret ((results_cell_tmp_row rfl _ _ (w.heap.size + 1) _ _ _ _ rfl (setRow_heap _ _ _ (mAr m) _ _ ((setRow_other _ w4.heap.size _ (lnA L) (by have := HS5.out; omega)).trans HZ5.out)) Try.underlying30 rfl info_msg).trans (by rfl)) rfl ⟨rfl, below_setRow (below_setRow HB5.out (by have := HS5.out; omega) _) (show w.heap.size ≤ w.heap.size + 1 by omega) _⟩
end Go.Proofs.Ytoamgdcjmkkmfaa
