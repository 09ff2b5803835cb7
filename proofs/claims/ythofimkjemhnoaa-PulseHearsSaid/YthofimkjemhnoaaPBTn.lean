/- The order's function, BinarySearchFunc and place of timers. -/
import Derived.Test.YthofimkjemhnoaaPBTm
import Derived.Deep.RegionHeld3
namespace Go.Proofs.Ythofimkjemhnoaa
open Go.RowKit
set_option linter.unusedSimpArgs false
set_option linter.unusedVariables false
theorem kD (w : World) : Below w.heap.size w w.drew := ⟨rfl, rfl, rfl, Nat.le_refl _, fun _ _ => rfl⟩
theorem or_two (w : World) (H : Nat) (a b : Int) (h : w.heap[H]? = some (.cells #[.int .i64 a, .int .i64 b] 3 (0, 0))) :
    Calls Try.prog 55 #[.slice (some ⟨H, 0, none⟩) 2 2] w fun e w' => e = .returned (.int .i64 (orZ a b)) ∧ w' = w := by
  have c0 : w.cell? ⟨H, 0, none⟩ = some (.int .i64 a) := by rw [cell_of_row _ _ _ _ _ _ h]; rfl
  have c1 : w.cell? ⟨H, 0 + 1, none⟩ = some (.int .i64 b) := by rw [cell_of_row _ _ _ _ _ _ h]; rfl
  have hd : Hid (orZ a b = if a = 0 then b else a) := Lib.hid rfl
  clear h
  go_enter Try.func55, Try.ntmps55
  go_wp2_with fail
  go_loopw [8] (fun i wr => (i = .int .i64 0 ∨ (i = .int .i64 1 ∧ a = 0) ∨ (i = .int .i64 2 ∧ a = 0 ∧ b = 0)) ∧ wr = w) (fun i _ => (2 - intOf i).toNat)
  case atStart => exact ⟨.inl rfl, by first | trivial | rfl⟩
  case round =>
    obtain ⟨h, rfl⟩ := hrel
    rcases h with rfl | ⟨rfl, rfl⟩ | ⟨rfl, rfl, rfl⟩
    · by_cases ha : a = 0
      · subst ha
        go_wp2_with fail
        exact ⟨⟨.inr (.inl (by simp)), by first | trivial | rfl⟩, by simp [intOf]⟩
      · have t1 : (a != 0) = true := by simpa using ha
        have HE := Lib.hid (hd.out.trans (if_neg ha))
        clear ha
        go_wp2_with fail
        go_ret
        exact ⟨by rw [HE.out]; rfl, by first | trivial | rfl⟩
    · by_cases hb : b = 0
      · subst hb
        go_wp2_with fail
        exact ⟨⟨.inr (.inr (by simp)), by first | trivial | rfl⟩, by simp [intOf]⟩
      · have t1 : (b != 0) = true := by simpa using hb
        have HE := Lib.hid (hd.out.trans (if_pos rfl))
        clear hb
        go_wp2_with fail
        go_ret
        exact ⟨by rw [HE.out]; rfl, by first | trivial | rfl⟩
    · go_wp2_with fail
      go_ret
      exact ⟨by rw [hd.out]; rfl, by first | trivial | rfl⟩

theorem place1I (w : World) (ak bk : Int) (aa ba : Int) :
    Calls Try.prog 54 #[.agg #[.int .i64 ak, .int .i64 aa], .agg #[.int .i64 bk, .int .i64 ba]] w fun e w' => e = .returned (.int .i64 (orZ (cmpI aa ba) (cmpI ak bk))) ∧ Below w.heap.size w w' := by
  have hb : Below w.heap.size w (((w.alloc (.cells #[.int .i64 ak, .int .i64 aa] 93)).alloc (.cells #[.int .i64 bk, .int .i64 ba] 93)).drew) := kF (kD _) (((Below.refl _ _).alloc (Nat.le_refl _) _).alloc (by simp) _)
  have h1 := heap_alloc2_old w (.cells #[.int .i64 ak, .int .i64 aa] 93) (.cells #[.int .i64 bk, .int .i64 ba] 93)
  have h2 := heap_alloc2_new w (.cells #[.int .i64 ak, .int .i64 aa] 93) (.cells #[.int .i64 bk, .int .i64 ba] 93)
  have hc : ∀ x, Below w.heap.size w x → x.heap[w.heap.size]? = some (.cells #[.int .i64 ak, .int .i64 aa] 93 (0, 0)) → x.heap[w.heap.size + 1]? = some (.cells #[.int .i64 bk, .int .i64 ba] 93 (0, 0)) → x.cell? ⟨w.heap.size, 0, none⟩ = some (.int .i64 ak) ∧ x.cell? ⟨w.heap.size, 1, none⟩ = some (.int .i64 aa) ∧ x.cell? ⟨w.heap.size + 1, 0, none⟩ = some (.int .i64 bk) ∧ x.cell? ⟨w.heap.size + 1, 1, none⟩ = some (.int .i64 ba) := fun x _ h1 h2 => by
    refine ⟨?_, ?_, ?_, ?_⟩
    · rw [cell_of_row _ _ _ _ _ _ h1]; rfl
    · rw [cell_of_row _ _ _ _ _ _ h1]; rfl
    · rw [cell_of_row _ _ _ _ _ _ h2]; rfl
    · rw [cell_of_row _ _ _ _ _ _ h2]; rfl
  have k0 := hc _ hb h1 h2
  have hw3 : Below w.heap.size w ((((w.alloc (.cells #[.int .i64 ak, .int .i64 aa] 93)).alloc (.cells #[.int .i64 bk, .int .i64 ba] 93)).alloc (.cells #[.int .i64 (cmpI aa ba), .int .i64 (cmpI ak bk)] 3)).drew) := kF (kD _) ((((Below.refl _ _).alloc (Nat.le_refl _) _).alloc (by simp) _).alloc (by simp; omega) _)
  have hn3 : ((((w.alloc (.cells #[.int .i64 ak, .int .i64 aa] 93)).alloc (.cells #[.int .i64 bk, .int .i64 ba] 93)).alloc (.cells #[.int .i64 (cmpI aa ba), .int .i64 (cmpI ak bk)] 3)).drew).heap[w.heap.size + 1 + 1]? = some (.cells #[.int .i64 (cmpI aa ba), .int .i64 (cmpI ak bk)] 3 (0, 0)) := by
    have h := heap_alloc_new ((w.alloc (.cells #[.int .i64 ak, .int .i64 aa] 93)).alloc (.cells #[.int .i64 bk, .int .i64 ba] 93)) (.cells #[.int .i64 (cmpI aa ba), .int .i64 (cmpI ak bk)] 3)
    rw [show ((w.alloc (.cells #[.int .i64 ak, .int .i64 aa] 93)).alloc (.cells #[.int .i64 bk, .int .i64 ba] 93)).heap.size = w.heap.size + 1 + 1 by simp] at h
    exact h
  have k1 := hc _ hw3 ((heap_alloc_old ((w.alloc (.cells #[.int .i64 ak, .int .i64 aa] 93)).alloc (.cells #[.int .i64 bk, .int .i64 ba] 93)) _ (by simp; omega)).trans h1) ((heap_alloc_old ((w.alloc (.cells #[.int .i64 ak, .int .i64 aa] 93)).alloc (.cells #[.int .i64 bk, .int .i64 ba] 93)) _ (by simp)).trans h2)
  have HB3 := Lib.hid hw3
  have HC1 := Lib.hid (fun w => cmp_int w aa ba)
  have HC2 := Lib.hid (fun w => cmp_int w ak bk)
  have HOR := Lib.hid (or_two _ _ (cmpI aa ba) (cmpI ak bk) hn3)
  clear hb h1 h2 hc hw3 hn3
  generalize cmpI aa ba = p at *
  generalize cmpI ak bk = q at *
  go_enter Try.func54, Try.ntmps54
  go_wp2_with fail
  go_region_held3 (fun w' => w'.cell? ⟨w.heap.size, 0, none⟩ = some (.int .i64 ak) ∧ w'.cell? ⟨w.heap.size, 1, none⟩ = some (.int .i64 aa) ∧ w'.cell? ⟨w.heap.size + 1, 0, none⟩ = some (.int .i64 bk) ∧ w'.cell? ⟨w.heap.size + 1, 1, none⟩ = some (.int .i64 ba))
    (first | exact k0 | exact k1)
    (first
      | (go_at_call 56; (with_reducible refine (HC1.out _).mono ?_); rintro e w1 ⟨rfl, rfl⟩)
      | (go_at_call 56; (with_reducible refine (HC2.out _).mono ?_); rintro e w1 ⟨rfl, rfl⟩)
      | (go_at_call 55; (with_reducible refine HOR.out.mono ?_); rintro e w1 ⟨rfl, rfl⟩))
  all_goals
    go_wp2_with fail
    go_ret
    exact ⟨rfl, HB3.out⟩

set_option maxRecDepth 100000 in
set_option maxHeartbeats 2000000 in
theorem bsTI (w : World) (base n : Nat) (v : Value) (ls : List (Int × Int)) (q : Int × Int) (hown : w.ownsRow base 93 2 v n (fl eI eI ls)) (hn : n ≤ 100000) (hs : RiseT tlI ls) :
    Calls Try.prog 53 #[v, .agg #[.int .i64 q.1, .int .i64 q.2], .func (Fn.func 54) #[] #[]] w fun e w' => (∃ f, e = .returned (.tuple #[.int .i64 (plcT tlI q ls : Nat), .bool f])) ∧ Below w.heap.size w w' := by
  have hl := hown.1
  rw [fl_len] at hl
  have hln : ls.length = n := by omega
  obtain ⟨a, c, rfl⟩ := own_slice hown
  have hid := fun (j : Nat) (hj : j ≤ n) (h1 : ∀ i x, i < j → ls[i]? = some x → tlI x q = true) (h2 : ∀ x, ls[j]? = some x → tlI x q = false) => plcT_at q ls j (by omega) h1 h2
  obtain ⟨qk, qa⟩ := q
  have hb0 : Below w.heap.size w (w.alloc (.cells #[.int .i64 qk, .int .i64 qa] 93)) := (Below.refl _ _).alloc (Nat.le_refl _) _
  have hq0 := heap_alloc_new w (.cells #[.int .i64 qk, .int .i64 qa] 93)
  generalize hR : plcT tlI (qk, qa) ls = R at *
  have HID := Lib.hid hid
  have HO := Lib.hid hown
  have HLN := Lib.hid hln
  have HS := Lib.hid hs
  have HB0 := Lib.hid hb0
  have HQ0 := Lib.hid hq0
  have hat := Lib.hid (fun (j : Nat) (hj : j < n) => (⟨_, List.getElem?_eq_getElem (by rw [HLN.out]; exact hj)⟩ : ∃ x, ls[j]? = some x))
  clear hid hown hl hln hR hs hb0 hq0
  go_enter Try.func53, Try.ntmps53
  go_wp2_with fail
  go_loopw [9, 10] (fun i j wr => ∃ lo hi : Nat, i = .int .i64 lo ∧ j = .int .i64 hi ∧ lo ≤ hi ∧ hi ≤ n ∧ Hid (∀ i x, i < lo → ls[i]? = some x → tlI x (qk, qa) = true) ∧ Hid (∀ i x, hi ≤ i → ls[i]? = some x → tlI x (qk, qa) = false) ∧ Hid (Below w.heap.size w wr ∧ wr.heap[w.heap.size]? = some (.cells #[.int .i64 qk, .int .i64 qa] 93 (0, 0)))) (fun i j _ => (intOf j - intOf i).toNat)
  case atStart => exact ⟨0, n, rfl, rfl, Nat.zero_le _, Nat.le_refl _, Lib.hid (fun i x h => absurd h (Nat.not_lt_zero _)), Lib.hid (fun i x h hx => by have := (List.getElem?_eq_some_iff.1 hx).1; rw [HLN.out] at this; omega), Lib.hid ⟨HB0.out, HQ0.out⟩⟩
  case round =>
    obtain ⟨lo, hi, rfl, rfl, hlh, hin, H1, H2, hb⟩ := hrel
    have hqd : (wr.drew).heap[w.heap.size]? = some (.cells #[.int .i64 qk, .int .i64 qa] 93 (0, 0)) := hb.out.2
    have hcells : ∀ (j : Nat) (x : Int × Int), ls[j]? = some x → ∃ g, a = some ⟨g, 0, none⟩ ∧ g < w.heap.size ∧ n ≤ c ∧ c ≤ maxLen ∧ ∀ X, Below w.heap.size w X → X.cell? ⟨g, j * 2, none⟩ = some (.int .i64 x.1) ∧ X.cell? ⟨g, j * 2 + 1, none⟩ = some (.int .i64 x.2) := fun j x hx => by
      have hj : j < n := by rw [← HLN.out]; exact (List.getElem?_eq_some_iff.1 hx).1
      obtain ⟨g, cap, cur, e1, _, hg, hnc, hm, _⟩ := own_some HO.out (by omega)
      cases e1
      refine ⟨g, rfl, (Array.getElem?_eq_some_iff.1 hg).1, hnc, hm, fun X hX => ?_⟩
      have ho := HO.out.kept (grown_below none hX) (.inr (by simp [Value.ownBlock]))
      refine ⟨?_, ?_⟩
      · rw [own_cell ho (by omega), fl_key eI eI ls j x hx]; rfl
      · rw [own_cell ho (by omega), fl_val eI eI ls j x hx]; rfl
    have HCE := Lib.hid hcells
    have hqc : ∀ X : World, X.heap[w.heap.size]? = some (.cells #[.int .i64 qk, .int .i64 qa] 93 (0, 0)) → X.cell? ⟨w.heap.size, 0, none⟩ = some (.int .i64 qk) ∧ X.cell? ⟨w.heap.size, 1, none⟩ = some (.int .i64 qa) := fun X h => ⟨by rw [cell_of_row _ _ _ _ _ _ h]; rfl, by rw [cell_of_row _ _ _ _ _ _ h]; rfl⟩
    have HQC := Lib.hid hqc
    clear hcells hqc
    by_cases hlt : lo < hi
    · obtain ⟨x, hx⟩ := hat.out ((lo + hi) / 2) (by omega)
      obtain ⟨g, rfl, hg, hnc, hm, hce⟩ := HCE.out _ x hx
      simp only [maxLen] at hm
      have hno : tlI x (qk, qa) = true → ∀ i y, i < (lo + hi) / 2 + 1 → ls[i]? = some y → tlI y (qk, qa) = true := fun hq i y hii hy => by
        by_cases e : i = (lo + hi) / 2
        · subst e; rw [hx] at hy; cases hy; exact hq
        · exact tlI_lin.tr (HS.out.at (by omega) hy hx) hq
      have hyes : tlI x (qk, qa) = false → ∀ i y, (lo + hi) / 2 ≤ i → ls[i]? = some y → tlI y (qk, qa) = false := fun hq i y hii hy => by
        by_cases e : i = (lo + hi) / 2
        · subst e; rw [hx] at hy; cases hy; exact hq
        · cases hz : tlI y (qk, qa) with
          | false => rfl
          | true => have h3 := tlI_lin.tr (HS.out.at (by omega) hx hy) hz; rw [hq] at h3; cases h3
      have hcall := fun w => place1I w x.1 qk x.2 qa
      have hcn := @tlI_neg x (qk, qa)
      simp only at hcn
      generalize orZ (cmpI x.2 qa) (cmpI x.1 qk) = cc at hcall hcn
      obtain ⟨k, u⟩ := x
      simp only at hcall hcn hno hyes hce
      have HC := Lib.hid hcall
      have HN := Lib.hid hno
      have HY := Lib.hid hyes
      have HCN := Lib.hid hcn
      have k0 : wr.drew.cell? ⟨g, (lo + hi) / 2 * 2, none⟩ = some (.int .i64 k) ∧ wr.drew.cell? ⟨g, (lo + hi) / 2 * 2 + 1, none⟩ = some (.int .i64 u) ∧ wr.drew.cell? ⟨w.heap.size, 0, none⟩ = some (.int .i64 qk) ∧ wr.drew.cell? ⟨w.heap.size, 1, none⟩ = some (.int .i64 qa) := ⟨(hce _ (kF (kD _) hb.out.1)).1, (hce _ (kF (kD _) hb.out.1)).2, (HQC.out _ hqd).1, (HQC.out _ hqd).2⟩
      have HCE2 := Lib.hid hce
      have HQS := Lib.hid (show w.heap.size < wr.drew.heap.size from (Array.getElem?_eq_some_iff.1 hqd).1)
      clear hx hcall hno hyes hcn hce HCE
      have hm1 : (lo + hi) / 2 < n := by omega
      generalize hmm : (lo + hi) / 2 = mm at *
      have hmI : ((lo : Int) + (hi : Int)) / 2 = (mm : Int) := by omega
      have hmI2 : (mm : Int) < (n : Int) := by omega
      go_wp2_with fail
      go_region_held3 (fun w' => w'.cell? ⟨g, mm * 2, none⟩ = some (.int .i64 k) ∧ w'.cell? ⟨g, mm * 2 + 1, none⟩ = some (.int .i64 u) ∧ w'.cell? ⟨w.heap.size, 0, none⟩ = some (.int .i64 qk) ∧ w'.cell? ⟨w.heap.size, 1, none⟩ = some (.int .i64 qa))
        (first | exact k0 | exact k1)
        (first
          | (go_at_call 54; (with_reducible refine (HC.out _).mono ?_); rintro e w2 ⟨rfl, hb2⟩
             have hqn := (hb2.block _ HQS.out).trans hqd
             have hbn := kF hb2 (kF (kD wr) hb.out.1)
             have k1 : w2.cell? ⟨g, mm * 2, none⟩ = some (.int .i64 k) ∧ w2.cell? ⟨g, mm * 2 + 1, none⟩ = some (.int .i64 u) ∧ w2.cell? ⟨w.heap.size, 0, none⟩ = some (.int .i64 qk) ∧ w2.cell? ⟨w.heap.size, 1, none⟩ = some (.int .i64 qa) := ⟨(HCE2.out _ hbn).1, (HCE2.out _ hbn).2, (HQC.out _ hqn).1, (HQC.out _ hqn).2⟩
             have HBN : Hid (Below w.heap.size w w2 ∧ w2.heap[w.heap.size]? = some (.cells #[.int .i64 qk, .int .i64 qa] 93 (0, 0))) := Lib.hid ⟨hbn, hqn⟩
             clear hb2 hqn hbn))
      by_cases hc : cc < 0
      · have HN2 := Lib.hid (HN.out (HCN.out.1 hc))
        clear HY HN k0 k1
        go_wp2_with fail
        exact ⟨⟨mm + 1, hi, by first | rfl | go_num, rfl, by omega, hin, HN2, H2, HBN⟩, by simp [intOf]; omega⟩
      · have HN2 := Lib.hid (HY.out (by cases hz : tlI (k, u) (qk, qa) with | false => rfl | true => exact absurd (HCN.out.2 hz) hc))
        clear HY HN k0 k1
        go_wp2_with fail
        exact ⟨⟨lo, mm, rfl, by first | rfl | go_num, by omega, by omega, H1, HN2, HBN⟩, by simp [intOf]; omega⟩
    · obtain rfl : hi = lo := by omega
      have hRe : R = hi := (HID.out hi hin H1.out (fun x hx => H2.out hi x (Nat.le_refl _) hx))
      subst hRe
      by_cases hn : R < n
      · obtain ⟨x, hx⟩ := hat.out R hn
        obtain ⟨g, rfl, hg, hnc, hm, hce⟩ := HCE.out _ x hx
        simp only [maxLen] at hm
        have hcall := fun w => place1I w x.1 qk x.2 qa
        generalize orZ (cmpI x.2 qa) (cmpI x.1 qk) = cc at hcall
        obtain ⟨k, u⟩ := x
        simp only at hcall hce
        have HC := Lib.hid hcall
        have k0 : wr.drew.cell? ⟨g, R * 2, none⟩ = some (.int .i64 k) ∧ wr.drew.cell? ⟨g, R * 2 + 1, none⟩ = some (.int .i64 u) ∧ wr.drew.cell? ⟨w.heap.size, 0, none⟩ = some (.int .i64 qk) ∧ wr.drew.cell? ⟨w.heap.size, 1, none⟩ = some (.int .i64 qa) := ⟨(hce _ (kF (kD _) hb.out.1)).1, (hce _ (kF (kD _) hb.out.1)).2, (HQC.out _ hqd).1, (HQC.out _ hqd).2⟩
        have HCE2 := Lib.hid hce
        have HQS := Lib.hid (show w.heap.size < wr.drew.heap.size from (Array.getElem?_eq_some_iff.1 hqd).1)
        have hmI2 : (R : Int) < (n : Int) := by omega
        clear hx hcall hce HCE
        go_wp2_with fail
        go_region_held3 (fun w' => w'.cell? ⟨g, R * 2, none⟩ = some (.int .i64 k) ∧ w'.cell? ⟨g, R * 2 + 1, none⟩ = some (.int .i64 u) ∧ w'.cell? ⟨w.heap.size, 0, none⟩ = some (.int .i64 qk) ∧ w'.cell? ⟨w.heap.size, 1, none⟩ = some (.int .i64 qa))
          (first | exact k0 | exact k1)
          (first
            | (go_at_call 54; (with_reducible refine (HC.out _).mono ?_); rintro e w2 ⟨rfl, hb2⟩
               have hqn := (hb2.block _ HQS.out).trans hqd
               have hbn := kF hb2 (kF (kD wr) hb.out.1)
               have k1 : w2.cell? ⟨g, R * 2, none⟩ = some (.int .i64 k) ∧ w2.cell? ⟨g, R * 2 + 1, none⟩ = some (.int .i64 u) ∧ w2.cell? ⟨w.heap.size, 0, none⟩ = some (.int .i64 qk) ∧ w2.cell? ⟨w.heap.size, 1, none⟩ = some (.int .i64 qa) := ⟨(HCE2.out _ hbn).1, (HCE2.out _ hbn).2, (HQC.out _ hqn).1, (HQC.out _ hqn).2⟩
               have HBN := Lib.hid hbn
               clear hb2 hqn hbn))
        go_wp2_with fail
        go_ret2
        exact ⟨⟨_, rfl⟩, HBN.out⟩
      · have hnn : ¬ ((R : Int) < (n : Int)) := by omega
        go_wp2_with fail
        go_quiet (fail)
        go_wp2_with fail
        go_ret2
        exact ⟨⟨_, rfl⟩, below_drewN hb.out.1 nq⟩

end Go.Proofs.Ythofimkjemhnoaa