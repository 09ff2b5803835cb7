/- The document's Add, one of its ways. -/
import Derived.Test.YtgaoplbocjadaaaYDzg
namespace Go.Proofs.Ytgaoplbocjadaaa
open Go.RowKit
set_option linter.unusedSimpArgs false
set_option linter.unusedVariables false
set_option maxRecDepth 100000 in
set_option maxHeartbeats 60000000 in
theorem dradd_c (w : World) (base n c : Nat) (a : Option Addr) (R : List (Int × Ent)) (ch i j k ac lo hi : Int) (B : Option Addr) (m mc : Nat) (l : List Int) (h : w.ownsRow base 77 7 (.slice a n c) n (fr R)) (hnl : n = R.length) (hn : R.length ≤ 1000) (hbase : base ≤ w.heap.size) (hok : ∀ x ∈ R, okE x) (hB : Byt w w.heap.size B m mc l) (hk1 : okN i j = true) (hm1 : mayB k ac lo hi = true) (hm0 : m = 0) (hf0 : ¬ fitsA k ac lo hi l = 0) :
    Calls Try.prog 40 #[.agg #[.slice a n c, .int .i64 ch], .agg #[.int .i64 i, .int .i64 j], .agg #[.int .i64 k, .int .i64 ac, .int .i64 lo, .int .i64 hi], .slice B m mc] w (AddR w base R ch i j k ac lo hi l) := by
  have hb0 : Below w.heap.size w ((((w.alloc (.cells #[.slice a n c, .int .i64 ch] 33)).alloc (.cells #[.int .i64 i, .int .i64 j] 24)).alloc (.cells #[.int .i64 k, .int .i64 ac, .int .i64 lo, .int .i64 hi] 75)).alloc (.cells #[.slice none 0 0, .int .i64 0] 33)) := ((((Below.refl _ _).alloc (Nat.le_refl _) _).alloc (by simp) _).alloc (by simp; omega) _).alloc (by simp; omega) _
  have hs2 : ((w.alloc (.cells #[.slice a n c, .int .i64 ch] 33)).alloc (.cells #[.int .i64 i, .int .i64 j] 24)).heap.size = w.heap.size + 2 := by simp
  have hs3 : (((w.alloc (.cells #[.slice a n c, .int .i64 ch] 33)).alloc (.cells #[.int .i64 i, .int .i64 j] 24)).alloc (.cells #[.int .i64 k, .int .i64 ac, .int .i64 lo, .int .i64 hi] 75)).heap.size = w.heap.size + 3 := by simp
  have ha0 : AddAt w a n c ch i j k ac lo hi ((((w.alloc (.cells #[.slice a n c, .int .i64 ch] 33)).alloc (.cells #[.int .i64 i, .int .i64 j] 24)).alloc (.cells #[.int .i64 k, .int .i64 ac, .int .i64 lo, .int .i64 hi] 75)).alloc (.cells #[.slice none 0 0, .int .i64 0] 33)) := by
    refine ⟨(heap_alloc_old _ _ _ (by rw [hs3]; omega)).trans ((heap_alloc_old _ _ _ (by rw [hs2]; omega)).trans (heap_alloc2_old w _ _)), (heap_alloc_old _ _ _ (by rw [hs3]; omega)).trans ((heap_alloc_old _ _ _ (by rw [hs2]; omega)).trans (heap_alloc2_new w _ _)), ?_, ?_, hb0⟩
    · have h2 := heap_alloc_new ((w.alloc (.cells #[.slice a n c, .int .i64 ch] 33)).alloc (.cells #[.int .i64 i, .int .i64 j] 24)) (.cells #[.int .i64 k, .int .i64 ac, .int .i64 lo, .int .i64 hi] 75)
      rw [hs2] at h2
      exact (heap_alloc_old _ _ _ (by rw [hs3]; omega)).trans h2
    · have h2 := heap_alloc_new (((w.alloc (.cells #[.slice a n c, .int .i64 ch] 33)).alloc (.cells #[.int .i64 i, .int .i64 j] 24)).alloc (.cells #[.int .i64 k, .int .i64 ac, .int .i64 lo, .int .i64 hi] 75)) (.cells #[.slice none 0 0, .int .i64 0] 33)
      rw [hs3] at h2
      exact h2
  have HAT := Lib.hid (fun x (hx : Below w.heap.size w x) => rat_any x base n c a R ch i j (by rw [← hnl]; exact own_keep h hx) hnl hn (fun y hy => (hok y hy).1))
  have HSM := Lib.hid (fun (code : Int) (w3 : World) (hz : RBox w3 (w.heap.size + 3) none 0 0 0) (hb : Below w.heap.size w w3) => RefP.same (ch := ch) (code := code) hnl h hz hb (by omega))
  have HNM := Lib.hid (fun x => rname_any i j x)
  have HMA := Lib.hid (fun x => rmay_any k ac lo hi x)
  have HFT := Lib.hid (fun (x : World) (A : Option Addr) (q r : Nat) (L : List Int) (hy : Byt x x.heap.size A q r L) => rfits_any k ac lo hi x A q r L hy)
  have hfr := fun x => rfirst_any k ac lo hi x
  unfold FirPost at hfr
  have HFR := Lib.hid hfr
  have HBY := Lib.hid (fun x (hx : Below w.heap.size w x) => hB.step hx)
  have hln := hB.len
  have hbm := byt_max hB
  have HA0 := Lib.hid ha0
  have HRB := Lib.hid (show l = [] → ¬ fitsA k ac lo hi l = 0 → refB k ac lo hi l = firL k ac lo hi from fun h1 h2 => if_pos ⟨h1, h2⟩)
  have HRC := Lib.hid (show ¬ l = [] ∨ fitsA k ac lo hi l = 0 → refB k ac lo hi l = l from fun h1 => if_neg (fun h2 => h1.elim (fun h => h h2.1) (fun h => h2.2 h)))
  have HOWN := Lib.hid h
  have HNL := Lib.hid hnl
  have HNN := Lib.hid hn
  unfold AddR
  have hzn : n ≤ 1000 := by omega
  have HBS := Lib.hid hbase
  clear h hok hB hb0 ha0 hbase hs2 hs3 hfr hnl hn
  obtain ⟨d0, d1⟩ := HA0.out.dict.cells
  obtain ⟨c0, c1⟩ := HA0.out.key.cells
  obtain ⟨p0, p1, p2, p3⟩ := HA0.out.spc.cells
  obtain ⟨z0, z1⟩ := HA0.out.zero.cells
  have fz0 := frozen_of_row _ _ 0 _ _ HA0.out.zero
  have fz1 := frozen_of_row _ _ 1 _ _ HA0.out.zero
  have hnm := HNM.out
  rw [hk1] at hnm
  have hma := HMA.out
  rw [hm1] at hma
  have HNM2 := Lib.hid hnm
  have HMA2 := Lib.hid hma
  have HOK := Lib.hid (okN_in hk1)
  have HKK := Lib.hid hk1
  have HMM := Lib.hid hm1
  clear hnm hma hk1 hm1 HNM HMA
  have hl0 : l = [] := List.eq_nil_of_length_eq_zero (by omega)
  have HRE := Lib.hid (HRB.out hl0 hf0)
  have HF0 := Lib.hid hf0
  clear HRB HRC hf0 hl0 hln
  subst hm0
  go_enter Try.func40, Try.ntmps40
  go_wp2_with fail
  generalize ((((w.alloc (.cells #[.slice a n c, .int .i64 ch] 33)).alloc (.cells #[.int .i64 i, .int .i64 j] 24)).alloc (.cells #[.int .i64 k, .int .i64 ac, .int .i64 lo, .int .i64 hi] 75)).alloc (.cells #[.slice none 0 0, .int .i64 0] 33)) = w0 at *
  refine (HNM2.out _).mono ?_
  rintro e w1 ⟨rfl, hb1⟩
  have HA1 := Lib.hid (HA0.out.below hb1)
  clear hb1 d0 d1 c0 c1 p0 p1 p2 p3 z0 z1 fz0 fz1
  obtain ⟨d0, d1⟩ := HA1.out.dict.cells
  obtain ⟨c0, c1⟩ := HA1.out.key.cells
  obtain ⟨p0, p1, p2, p3⟩ := HA1.out.spc.cells
  obtain ⟨z0, z1⟩ := HA1.out.zero.cells
  have fz0 := frozen_of_row _ _ 0 _ _ HA1.out.zero
  have fz1 := frozen_of_row _ _ 1 _ _ HA1.out.zero
  go_wp2_with fail
  refine (HMA2.out _).mono ?_
  rintro e w2 ⟨rfl, hb2⟩
  have HA2 := Lib.hid (HA1.out.below hb2)
  clear hb2 d0 d1 c0 c1 p0 p1 p2 p3 z0 z1 fz0 fz1
  obtain ⟨d0, d1⟩ := HA2.out.dict.cells
  obtain ⟨c0, c1⟩ := HA2.out.key.cells
  obtain ⟨p0, p1, p2, p3⟩ := HA2.out.spc.cells
  obtain ⟨z0, z1⟩ := HA2.out.zero.cells
  have fz0 := frozen_of_row _ _ 0 _ _ HA2.out.zero
  have fz1 := frozen_of_row _ _ 1 _ _ HA2.out.zero
  go_wp2_with fail
  refine (HFT.out w2 _ _ _ _ (HBY.out w2 HA2.out.bel)).mono ?_
  rintro e w3 ⟨rfl, hb3⟩
  have HA3 := Lib.hid (HA2.out.below hb3)
  have t0 : (fitsA k ac lo hi l != 0) = true := by simp [HF0.out]
  clear hb3 d0 d1 c0 c1 p0 p1 p2 p3 z0 z1 fz0 fz1
  obtain ⟨d0, d1⟩ := HA3.out.dict.cells
  obtain ⟨c0, c1⟩ := HA3.out.key.cells
  obtain ⟨p0, p1, p2, p3⟩ := HA3.out.spc.cells
  obtain ⟨z0, z1⟩ := HA3.out.zero.cells
  have fz0 := frozen_of_row _ _ 0 _ _ HA3.out.zero
  have fz1 := frozen_of_row _ _ 1 _ _ HA3.out.zero
  go_wp2_with fail
  refine (HFR.out w3).mono ?_
  rintro e w4 ⟨A4, c4, rfl, hy4, hb4⟩
  have HA4 := Lib.hid (HA3.out.below hb4)
  have hby : Byt w4 w4.heap.size A4 (firL k ac lo hi).length c4 (refB k ac lo hi l) := by rw [HRE.out]; exact hy4
  generalize (firL k ac lo hi).length = FL at *
  clear hb4 hy4 d0 d1 c0 c1 p0 p1 p2 p3 z0 z1 fz0 fz1
  obtain ⟨d0, d1⟩ := HA4.out.dict.cells
  obtain ⟨c0, c1⟩ := HA4.out.key.cells
  obtain ⟨p0, p1, p2, p3⟩ := HA4.out.spc.cells
  obtain ⟨z0, z1⟩ := HA4.out.zero.cells
  have fz0 := frozen_of_row _ _ 0 _ _ HA4.out.zero
  have fz1 := frozen_of_row _ _ 1 _ _ HA4.out.zero
  go_wp2_with fail
  refine (HFT.out w4 _ _ _ _ hby).mono ?_
  rintro e w5 ⟨rfl, hb5⟩
  have HA5 := Lib.hid (HA4.out.below hb5)
  have HY5 := Lib.hid (hby.step hb5)
  clear hb5 hby d0 d1 c0 c1 p0 p1 p2 p3 z0 z1 fz0 fz1
  obtain ⟨d0, d1⟩ := HA5.out.dict.cells
  obtain ⟨c0, c1⟩ := HA5.out.key.cells
  obtain ⟨p0, p1, p2, p3⟩ := HA5.out.spc.cells
  obtain ⟨z0, z1⟩ := HA5.out.zero.cells
  have fz0 := frozen_of_row _ _ 0 _ _ HA5.out.zero
  have fz1 := frozen_of_row _ _ 1 _ _ HA5.out.zero
  by_cases hf : fitsA k ac lo hi (refB k ac lo hi l) = 0
  · have HF := Lib.hid hf
    have tf : (fitsA k ac lo hi (refB k ac lo hi l) != 0) = false := by simp [hf]
    clear hf
    go_wp2_with fail
    refine (HAT.out w5 HA5.out.bel).mono ?_
    rintro e w6 ⟨hb6, ⟨p, x, hx, hxq, -, rfl⟩ | ⟨hno, rfl⟩⟩
    · have HP := Lib.hid (show ∃ x ∈ R, x.1 = numI i j from ⟨x, List.mem_of_getElem? hx, hxq⟩)
      have HA6 := Lib.hid (HA5.out.below hb6)
      have hp0 : (0 : Int) ≤ (p : Int) := by omega
      clear hb6 hx hxq d0 d1 c0 c1 p0 p1 p2 p3 z0 z1 fz0 fz1
      obtain ⟨d0, d1⟩ := HA6.out.dict.cells
      obtain ⟨c0, c1⟩ := HA6.out.key.cells
      obtain ⟨p0, p1, p2, p3⟩ := HA6.out.spc.cells
      obtain ⟨z0, z1⟩ := HA6.out.zero.cells
      have fz0 := frozen_of_row _ _ 0 _ _ HA6.out.zero
      have fz1 := frozen_of_row _ _ 1 _ _ HA6.out.zero
      go_wp2_with fail
      exact bodyPost_ret ((results_cell_tmp_row rfl _ _ (w.heap.size + 3) _ _ _ _ rfl HA6.out.zero.two Try.underlying33 rfl info_dct).trans (by rfl)) rfl (.inr ⟨HKK.out, HMM.out, .inr ⟨HF.out, .inl ⟨HP.out, HSM.out 8 _ HA6.out.zero HA6.out.bel⟩⟩⟩)
    · have HNO := Lib.hid hno
      have HA6 := Lib.hid (HA5.out.below hb6)
      have HY6 := Lib.hid (HY5.out.step hb6)
      clear hb6 hno d0 d1 c0 c1 p0 p1 p2 p3 z0 z1 fz0 fz1
      obtain ⟨d0, d1⟩ := HA6.out.dict.cells
      obtain ⟨c0, c1⟩ := HA6.out.key.cells
      obtain ⟨p0, p1, p2, p3⟩ := HA6.out.spc.cells
      obtain ⟨z0, z1⟩ := HA6.out.zero.cells
      have fz0 := frozen_of_row _ _ 0 _ _ HA6.out.zero
      have fz1 := frozen_of_row _ _ 1 _ _ HA6.out.zero
      by_cases h5 : n = 512
      · have HH5 := Lib.hid (show R.length = 512 from HNL.out ▸ h5)
        have t5 : ((n : Int) == 512) = true := by simp; omega
        clear h5
        go_wp2_with fail
        exact bodyPost_ret ((results_cell_tmp_row rfl _ _ (w.heap.size + 3) _ _ _ _ rfl HA6.out.zero.two Try.underlying33 rfl info_dct).trans (by rfl)) rfl (.inr ⟨HKK.out, HMM.out, .inr ⟨HF.out, .inr ⟨HNO.out, .inl ⟨HH5.out, HSM.out 6 _ HA6.out.zero HA6.out.bel⟩⟩⟩⟩)
      · have HH5 := Lib.hid (show ¬ R.length = 512 from HNL.out ▸ h5)
        have t5 : ((n : Int) == 512) = false := by simp; omega
        clear h5
        rcases HOWN.out.2 with ⟨ea, hn0⟩ | ⟨gs, cap, cur, ea, _, hgs, _, _, _, _⟩
        · cases ea
          obtain rfl : R = [] := List.eq_nil_of_length_eq_zero HNL.out.symm
          have hS : ∀ x, Below w6.heap.size w6 x → x.cell? ⟨w.heap.size, 0, none⟩ = some (.slice none 0 0) ∧ x.cell? ⟨w.heap.size + 1, 0, none⟩ = some (.int .i64 i) ∧ x.cell? ⟨w.heap.size + 1, 1, none⟩ = some (.int .i64 j) ∧ x.cell? ⟨w.heap.size + 2, 0, none⟩ = some (.int .i64 k) ∧ x.cell? ⟨w.heap.size + 2, 1, none⟩ = some (.int .i64 ac) ∧ x.cell? ⟨w.heap.size + 2, 2, none⟩ = some (.int .i64 lo) ∧ x.cell? ⟨w.heap.size + 2, 3, none⟩ = some (.int .i64 hi) ∧ (convert 58 9 (.slice A4 FL c4)).run Try.prog x = .ok (.string (strOfNums (refB k ac lo hi l))) x := fun x hx =>
            ⟨(HA6.out.below hx).dict.cells.1, (HA6.out.below hx).key.cells.1, (HA6.out.below hx).key.cells.2, (HA6.out.below hx).spc.cells.1, (HA6.out.below hx).spc.cells.2.1, (HA6.out.below hx).spc.cells.2.2.1, (HA6.out.below hx).spc.cells.2.2.2, conv_any (HY6.out.step hx)⟩
          have HS := Lib.hid hS
          obtain ⟨i0, hi0, hz0', hz1', hz2'⟩ := info_parts info_elR
          have HI := Lib.hid hi0
          clear hS hi0
          go_wp2_with fail
          clear d0 d1 c0 c1 p0 p1 p2 p3 z0 z1 fz0 fz1
          refine wp_region_last (fun w' => w'.cell? ⟨w.heap.size, 0, none⟩ = some (.slice none 0 0) ∧ w'.cell? ⟨w.heap.size + 1, 0, none⟩ = some (.int .i64 i) ∧ w'.cell? ⟨w.heap.size + 1, 1, none⟩ = some (.int .i64 j) ∧ w'.cell? ⟨w.heap.size + 2, 0, none⟩ = some (.int .i64 k) ∧ w'.cell? ⟨w.heap.size + 2, 1, none⟩ = some (.int .i64 ac) ∧ w'.cell? ⟨w.heap.size + 2, 2, none⟩ = some (.int .i64 lo) ∧ w'.cell? ⟨w.heap.size + 2, 3, none⟩ = some (.int .i64 hi) ∧ (convert 58 9 (.slice A4 FL c4)).run Try.prog w' = .ok (.string (strOfNums (refB k ac lo hi l))) w') 12 (by kernel_rfl) (HS.out _ (kD _)) (fun hHeld => ?_)
          refine wpAnyL_take (i := 1) (v := ?_) rfl (by kernel_rfl) (by kernel_rfl) (by kernel_rfl) (by kernel_rfl) (by kernel_rfl) (fun _ _ _ h => h) (Or.inl ⟨by rfl, ?_⟩) (by assumption) ?_
          rotate_left
          · intro wq hSw; (try dsimp only at hSw); first | (go_simp; done) | (go_simp; with_reducible rfl) | with_reducible rfl
          try simp only [Act.put, List.setIfInBounds_toArray, List.set_cons_zero, List.set_cons_succ]
          refine wpAnyL_take (i := 2) (v := ?_) rfl (by kernel_rfl) (by kernel_rfl) (by kernel_rfl) (by kernel_rfl) (by kernel_rfl) (fun _ _ _ h => h) (Or.inl ⟨by rfl, ?_⟩) (by assumption) ?_
          rotate_left
          · intro wq hSw; (try dsimp only at hSw); first | (go_simp; done) | (go_simp; with_reducible rfl) | with_reducible rfl
          try simp only [Act.put, List.setIfInBounds_toArray, List.set_cons_zero, List.set_cons_succ]
          refine wpAnyL_take (i := 4) (v := ?_) rfl (by kernel_rfl) (by kernel_rfl) (by kernel_rfl) (by kernel_rfl) (by kernel_rfl) (fun _ _ _ h => h) (Or.inl ⟨by rfl, ?_⟩) (by assumption) ?_
          rotate_left
          · intro wq hSw; (try dsimp only at hSw); first | (go_simp; done) | (go_simp; with_reducible rfl) | with_reducible rfl
          try simp only [Act.put, List.setIfInBounds_toArray, List.set_cons_zero, List.set_cons_succ]
          refine wpAnyL_take (i := 5) (v := ?_) rfl (by kernel_rfl) (by kernel_rfl) (by kernel_rfl) (by kernel_rfl) (by kernel_rfl) (fun _ _ _ h => h) (Or.inl ⟨by rfl, ?_⟩) (by assumption) ?_
          rotate_left
          · intro wq hSw; (try dsimp only at hSw); first | (go_simp; done) | (go_simp; with_reducible rfl) | with_reducible rfl
          try simp only [Act.put, List.setIfInBounds_toArray, List.set_cons_zero, List.set_cons_succ]
          refine wpAnyL_take (i := 6) (v := ?_) rfl (by kernel_rfl) (by kernel_rfl) (by kernel_rfl) (by kernel_rfl) (by kernel_rfl) (fun _ _ _ h => h) (Or.inl ⟨by rfl, ?_⟩) (by assumption) ?_
          rotate_left
          · intro wq hSw; (try dsimp only at hSw); first | (go_simp; done) | (go_simp; with_reducible rfl) | with_reducible rfl
          try simp only [Act.put, List.setIfInBounds_toArray, List.set_cons_zero, List.set_cons_succ]
          refine wpAnyL_take (i := 7) (v := ?_) rfl (by kernel_rfl) (by kernel_rfl) (by kernel_rfl) (by kernel_rfl) (by kernel_rfl) (fun _ _ _ h => h) (Or.inl ⟨by rfl, ?_⟩) (by assumption) ?_
          rotate_left
          · intro wq hSw; (try dsimp only at hSw); first | (go_simp; done) | (go_simp; with_reducible rfl) | with_reducible rfl
          try simp only [Act.put, List.setIfInBounds_toArray, List.set_cons_zero, List.set_cons_succ]
          refine wpAnyL_take (i := 8) (v := ?_) rfl (by kernel_rfl) (by kernel_rfl) (by kernel_rfl) (by kernel_rfl) (by kernel_rfl) (fun _ _ _ h => h) (Or.inl ⟨by rfl, ?_⟩) (by assumption) ?_
          rotate_left
          · intro wq hSw; (try dsimp only at hSw); first | (go_simp; done) | (go_simp; with_reducible rfl) | with_reducible rfl
          try simp only [Act.put, List.setIfInBounds_toArray, List.set_cons_zero, List.set_cons_succ]
          have HBx0 := Lib.hid (kD w6)
          generalize w6.drew = x0 at *
          refine wpAnyL_ready (rs := [0, 9]) (by kernel_rfl) (by simp) ?_
          refine (AllReadyL.cons rfl (fun K hK => ?_) (AllReadyL.cons rfl (fun K hK => ?_) AllReadyL.nil))
          · go_simp
            have HBx1 := Lib.hid (kA HBx0.out (.cells #[] 77))
            refine hK.out _ _ ?_ (fun hHeld => ?_)
            · (try dsimp only); exact HS.out _ HBx1.out
            clear hK K
            have HOE := Lib.hid (own_made x0 w6.heap.size 77 7 HBx0.out.size)
            have HEB := Lib.hid HBx0.out.size
            have HLT := Lib.hid (show x0.heap.size < (x0.alloc (.cells #[] 77)).heap.size by simp)
            generalize x0.alloc (.cells #[] 77) = x1 at *
            generalize x0.heap.size = eb at *
            refine wpAnyL_ready (rs := [3, 9]) (by kernel_rfl) (by simp) ?_
            refine (AllReadyL.cons rfl (fun K hK => ?_) (AllReadyL.cons rfl (fun K hK => ?_) AllReadyL.nil))
            · refine Eq.mpr (if_pos (by kernel_rfl)) ?_
              refine wp_append_none (.tmp 47) (.tmp 49) 31 rfl w6.heap.size 77 i0 7 Try.underlying31 HI.out (.slice (some ⟨eb, 0, none⟩) 0 0) 0 [] rfl HOE.out rfl ?_
              refine hK.out _ _ ?_ (fun hHeld => ?_)
              · (try dsimp only); exact HS.out _ HBx1.out
              clear hK K
              refine wpAnyL_ready (rs := [9]) (by kernel_rfl) (by simp) ?_
              refine (AllReadyL.cons rfl (fun K hK => ?_) AllReadyL.nil)
              go_simp
              have HBx3 := Lib.hid (kA HBx1.out (.cells #[.int .i64 i, .int .i64 j, .int .i64 k, .int .i64 ac, .int .i64 lo, .int .i64 hi, .string (strOfNums (refB k ac lo hi l))] 77))
              refine hK.out _ _ ?_ (fun hHeld => ?_)
              · (try dsimp only); exact HS.out _ HBx3.out
              clear hK K
              have HRW := Lib.hid (heap_alloc_new x1 (.cells #[.int .i64 i, .int .i64 j, .int .i64 k, .int .i64 ac, .int .i64 lo, .int .i64 hi, .string (strOfNums (refB k ac lo hi l))] 77))
              have hba : Below x1.heap.size x1 (x1.alloc (.cells #[.int .i64 i, .int .i64 j, .int .i64 k, .int .i64 ac, .int .i64 lo, .int .i64 hi, .string (strOfNums (refB k ac lo hi l))] 77)) := (Below.refl _ _).alloc (Nat.le_refl _) _
              have HOE := Lib.hid (own_keep HOE.out hba)
              have HNE := Lib.hid (show ¬ x1.heap.size = eb by have := HLT.out; omega)
              clear hba
              generalize x1.alloc (.cells #[.int .i64 i, .int .i64 j, .int .i64 k, .int .i64 ac, .int .i64 lo, .int .i64 hi, .string (strOfNums (refB k ac lo hi l))] 77) = x3 at *
              generalize x1.heap.size = rb at *
              refine wpAnyL_ready (rs := [10]) (by kernel_rfl) (by simp) ?_
              refine (AllReadyL.cons rfl (fun K hK => ?_) AllReadyL.nil)
              refine Eq.mpr (if_pos (by kernel_rfl)) ?_
              refine wp_append_own _ (.tmp 50) (.tmp 56) 31 rfl w6.heap.size 77 i0 (.agg #[.int .i64 0, .int .i64 0, .int .i64 0, .int .i64 0, .int .i64 0, .int .i64 0, .string ByteArray.empty]) 7 64 Try.underlying31 HI.out hz0' hz1' hz2' rfl (by omega) (.slice (some ⟨eb, 0, none⟩) 0 0) 0 [] rfl HOE.out ⟨rb, 0, none⟩ 1 1 [.int .i64 i, .int .i64 j, .int .i64 k, .int .i64 ac, .int .i64 lo, .int .i64 hi, .string (strOfNums (refB k ac lo hi l))] rfl rfl (row_cells HRW.out) (by simp [Value.oneCell']) (by simp [maxLen]) (by omega) HBx3.out.size ?_
              intro v2 x4 q2 q2g q2n
              rw [Nat.zero_add] at q2
              rcases q2.2 with ⟨ev, _⟩ | ⟨g2, c2, cur2, rfl, hg2, _⟩
              · exact absurd (q2n.1 ev).1 (by simp)
              have HBx4 := Lib.hid (HBx3.out.grown q2g HBx3.out.size (fun k e => by cases e; exact HEB.out))
              have q3 : x4.ownsRow w.heap.size 77 7 (.slice (some ⟨g2, 0, none⟩) 1 c2) 1 (fr [] ++ rowR (numI i j, ⟨k, ac, lo, hi, refB k ac lo hi l⟩)) := by rw [row_num HOK.out]; exact own_less q2 HA6.out.bel.size
              have HAE := Lib.hid (show AddAt w (some ⟨g2, 0, none⟩) 1 c2 ch i j k ac lo hi (x4.setCell ⟨w.heap.size, 0, none⟩ (.slice (some ⟨g2, 0, none⟩) 1 c2)) ∧ RefP w base ([] ++ [(numI i j, ⟨k, ac, lo, hi, refB k ac lo hi l⟩)]) ch 0 (.returned (.tuple #[.agg #[.slice (some ⟨g2, 0, none⟩) 1 c2, .int .i64 ch], .int .i64 0])) (((x4.setCell ⟨w.heap.size, 0, none⟩ (.slice (some ⟨g2, 0, none⟩) 1 c2)).setCell ⟨w.heap.size + 3, 0, none⟩ (.slice (some ⟨g2, 0, none⟩) 1 c2)).setCell ⟨w.heap.size + 3, 1, none⟩ (.int .i64 ch)) from add_end (n := 0) (R := []) (HA6.out.below HBx4.out) rfl HBS.out q3)
              clear q2 q2g q2n q3 hg2
              refine hK.out _ _ ?_ (fun hHeld => ?_)
              · (try dsimp only); exact HS.out _ HBx4.out
              clear hK K
              refine wpAnyL_take (i := 11) (v := ?_) rfl (by kernel_rfl) (by kernel_rfl) (by kernel_rfl) (by kernel_rfl) (by kernel_rfl) (fun _ _ _ h => h) (Or.inl ⟨by rfl, ?_⟩) (by assumption) ?_
              rotate_left
              · intro wq hSw; (try dsimp only at hSw); first | (go_simp; done) | (go_simp; with_reducible rfl) | with_reducible rfl
              try simp only [Act.put, List.setIfInBounds_toArray, List.set_cons_zero, List.set_cons_succ]
              obtain ⟨d0, d1⟩ := (HA6.out.below HBx4.out).dict.cells
              have fd0 := frozen_of_row _ _ 0 _ _ (HA6.out.below HBx4.out).dict
              refine wpAnyL_ready (rs := [12]) (by kernel_rfl) (by simp) ?_
              refine AllReadyL.last rfl (fun K hK => ?_)
              go_simp
              refine hK.out _ _ ?_
              clear hK K
              refine wpAnyL_done (by kernel_rfl) ?_ _
              clear hHeld d0 d1 fd0
              have HAZ := Lib.hid HAE.out.1
              have HRZ := Lib.hid HAE.out.2
              clear HAE
              generalize x4.setCell ⟨w.heap.size, 0, none⟩ (.slice (some ⟨g2, 0, none⟩) 1 c2) = x9 at *
              obtain ⟨d0, d1⟩ := HAZ.out.dict.cells
              obtain ⟨z0, z1⟩ := HAZ.out.zero.cells
              have fz0 := frozen_of_row _ _ 0 _ _ HAZ.out.zero
              have fz1 := frozen_of_row _ _ 1 _ _ HAZ.out.zero
              go_wp2_with fail
              exact bodyPost_ret ((results_cell_tmp_row rfl _ _ (w.heap.size + 3) _ _ _ _ rfl HAZ.out.zero.two Try.underlying33 rfl info_dct).trans (by rfl)) rfl (.inr ⟨HKK.out, HMM.out, .inr ⟨HF.out, .inr ⟨HNO.out, .inr ⟨HH5.out, HRZ.out⟩⟩⟩⟩)
            · go_simp
              have HBx2 := Lib.hid (kA HBx1.out (.cells #[.int .i64 i, .int .i64 j, .int .i64 k, .int .i64 ac, .int .i64 lo, .int .i64 hi, .string (strOfNums (refB k ac lo hi l))] 77))
              refine hK.out _ _ ?_ (fun hHeld => ?_)
              · (try dsimp only); exact HS.out _ HBx2.out
              clear hK K
              have HRW := Lib.hid (heap_alloc_new x1 (.cells #[.int .i64 i, .int .i64 j, .int .i64 k, .int .i64 ac, .int .i64 lo, .int .i64 hi, .string (strOfNums (refB k ac lo hi l))] 77))
              have hba : Below x1.heap.size x1 (x1.alloc (.cells #[.int .i64 i, .int .i64 j, .int .i64 k, .int .i64 ac, .int .i64 lo, .int .i64 hi, .string (strOfNums (refB k ac lo hi l))] 77)) := (Below.refl _ _).alloc (Nat.le_refl _) _
              have HOE := Lib.hid (own_keep HOE.out hba)
              have HNE := Lib.hid (show ¬ x1.heap.size = eb by have := HLT.out; omega)
              clear hba
              generalize x1.alloc (.cells #[.int .i64 i, .int .i64 j, .int .i64 k, .int .i64 ac, .int .i64 lo, .int .i64 hi, .string (strOfNums (refB k ac lo hi l))] 77) = x2 at *
              generalize x1.heap.size = rb at *
              refine wpAnyL_ready (rs := [3]) (by kernel_rfl) (by simp) ?_
              refine (AllReadyL.cons rfl (fun K hK => ?_) AllReadyL.nil)
              refine Eq.mpr (if_pos (by kernel_rfl)) ?_
              refine wp_append_none (.tmp 47) (.tmp 49) 31 rfl w6.heap.size 77 i0 7 Try.underlying31 HI.out (.slice (some ⟨eb, 0, none⟩) 0 0) 0 [] rfl HOE.out rfl ?_
              refine hK.out _ _ ?_ (fun hHeld => ?_)
              · (try dsimp only); exact HS.out _ HBx2.out
              clear hK K
              refine wpAnyL_ready (rs := [10]) (by kernel_rfl) (by simp) ?_
              refine (AllReadyL.cons rfl (fun K hK => ?_) AllReadyL.nil)
              refine Eq.mpr (if_pos (by kernel_rfl)) ?_
              refine wp_append_own _ (.tmp 50) (.tmp 56) 31 rfl w6.heap.size 77 i0 (.agg #[.int .i64 0, .int .i64 0, .int .i64 0, .int .i64 0, .int .i64 0, .int .i64 0, .string ByteArray.empty]) 7 64 Try.underlying31 HI.out hz0' hz1' hz2' rfl (by omega) (.slice (some ⟨eb, 0, none⟩) 0 0) 0 [] rfl HOE.out ⟨rb, 0, none⟩ 1 1 [.int .i64 i, .int .i64 j, .int .i64 k, .int .i64 ac, .int .i64 lo, .int .i64 hi, .string (strOfNums (refB k ac lo hi l))] rfl rfl (row_cells HRW.out) (by simp [Value.oneCell']) (by simp [maxLen]) (by omega) HBx2.out.size ?_
              intro v2 x4 q2 q2g q2n
              rw [Nat.zero_add] at q2
              rcases q2.2 with ⟨ev, _⟩ | ⟨g2, c2, cur2, rfl, hg2, _⟩
              · exact absurd (q2n.1 ev).1 (by simp)
              have HBx4 := Lib.hid (HBx2.out.grown q2g HBx2.out.size (fun k e => by cases e; exact HEB.out))
              have q3 : x4.ownsRow w.heap.size 77 7 (.slice (some ⟨g2, 0, none⟩) 1 c2) 1 (fr [] ++ rowR (numI i j, ⟨k, ac, lo, hi, refB k ac lo hi l⟩)) := by rw [row_num HOK.out]; exact own_less q2 HA6.out.bel.size
              have HAE := Lib.hid (show AddAt w (some ⟨g2, 0, none⟩) 1 c2 ch i j k ac lo hi (x4.setCell ⟨w.heap.size, 0, none⟩ (.slice (some ⟨g2, 0, none⟩) 1 c2)) ∧ RefP w base ([] ++ [(numI i j, ⟨k, ac, lo, hi, refB k ac lo hi l⟩)]) ch 0 (.returned (.tuple #[.agg #[.slice (some ⟨g2, 0, none⟩) 1 c2, .int .i64 ch], .int .i64 0])) (((x4.setCell ⟨w.heap.size, 0, none⟩ (.slice (some ⟨g2, 0, none⟩) 1 c2)).setCell ⟨w.heap.size + 3, 0, none⟩ (.slice (some ⟨g2, 0, none⟩) 1 c2)).setCell ⟨w.heap.size + 3, 1, none⟩ (.int .i64 ch)) from add_end (n := 0) (R := []) (HA6.out.below HBx4.out) rfl HBS.out q3)
              clear q2 q2g q2n q3 hg2
              refine hK.out _ _ ?_ (fun hHeld => ?_)
              · (try dsimp only); exact HS.out _ HBx4.out
              clear hK K
              refine wpAnyL_take (i := 11) (v := ?_) rfl (by kernel_rfl) (by kernel_rfl) (by kernel_rfl) (by kernel_rfl) (by kernel_rfl) (fun _ _ _ h => h) (Or.inl ⟨by rfl, ?_⟩) (by assumption) ?_
              rotate_left
              · intro wq hSw; (try dsimp only at hSw); first | (go_simp; done) | (go_simp; with_reducible rfl) | with_reducible rfl
              try simp only [Act.put, List.setIfInBounds_toArray, List.set_cons_zero, List.set_cons_succ]
              obtain ⟨d0, d1⟩ := (HA6.out.below HBx4.out).dict.cells
              have fd0 := frozen_of_row _ _ 0 _ _ (HA6.out.below HBx4.out).dict
              refine wpAnyL_ready (rs := [12]) (by kernel_rfl) (by simp) ?_
              refine AllReadyL.last rfl (fun K hK => ?_)
              go_simp
              refine hK.out _ _ ?_
              clear hK K
              refine wpAnyL_done (by kernel_rfl) ?_ _
              clear hHeld d0 d1 fd0
              have HAZ := Lib.hid HAE.out.1
              have HRZ := Lib.hid HAE.out.2
              clear HAE
              generalize x4.setCell ⟨w.heap.size, 0, none⟩ (.slice (some ⟨g2, 0, none⟩) 1 c2) = x9 at *
              obtain ⟨d0, d1⟩ := HAZ.out.dict.cells
              obtain ⟨z0, z1⟩ := HAZ.out.zero.cells
              have fz0 := frozen_of_row _ _ 0 _ _ HAZ.out.zero
              have fz1 := frozen_of_row _ _ 1 _ _ HAZ.out.zero
              go_wp2_with fail
              exact bodyPost_ret ((results_cell_tmp_row rfl _ _ (w.heap.size + 3) _ _ _ _ rfl HAZ.out.zero.two Try.underlying33 rfl info_dct).trans (by rfl)) rfl (.inr ⟨HKK.out, HMM.out, .inr ⟨HF.out, .inr ⟨HNO.out, .inr ⟨HH5.out, HRZ.out⟩⟩⟩⟩)
          · go_simp
            have HBx1 := Lib.hid (kA HBx0.out (.cells #[.int .i64 i, .int .i64 j, .int .i64 k, .int .i64 ac, .int .i64 lo, .int .i64 hi, .string (strOfNums (refB k ac lo hi l))] 77))
            refine hK.out _ _ ?_ (fun hHeld => ?_)
            · (try dsimp only); exact HS.out _ HBx1.out
            clear hK K
            have HRW := Lib.hid (heap_alloc_new x0 (.cells #[.int .i64 i, .int .i64 j, .int .i64 k, .int .i64 ac, .int .i64 lo, .int .i64 hi, .string (strOfNums (refB k ac lo hi l))] 77))
            have hba : Below x0.heap.size x0 (x0.alloc (.cells #[.int .i64 i, .int .i64 j, .int .i64 k, .int .i64 ac, .int .i64 lo, .int .i64 hi, .string (strOfNums (refB k ac lo hi l))] 77)) := (Below.refl _ _).alloc (Nat.le_refl _) _
            clear hba
            generalize x0.alloc (.cells #[.int .i64 i, .int .i64 j, .int .i64 k, .int .i64 ac, .int .i64 lo, .int .i64 hi, .string (strOfNums (refB k ac lo hi l))] 77) = x1 at *
            generalize x0.heap.size = rb at *
            refine wpAnyL_ready (rs := [0]) (by kernel_rfl) (by simp) ?_
            refine (AllReadyL.cons rfl (fun K hK => ?_) AllReadyL.nil)
            go_simp
            have HBx2 := Lib.hid (kA HBx1.out (.cells #[] 77))
            refine hK.out _ _ ?_ (fun hHeld => ?_)
            · (try dsimp only); exact HS.out _ HBx2.out
            clear hK K
            have HOE := Lib.hid (own_made x1 w6.heap.size 77 7 HBx1.out.size)
            have HEB := Lib.hid HBx1.out.size
            have HLT := Lib.hid (show x1.heap.size < (x1.alloc (.cells #[] 77)).heap.size by simp)
            have HNE := Lib.hid (show ¬ rb = x1.heap.size by have := (Array.getElem?_eq_some_iff.1 HRW.out).1; omega)
            have HRW := Lib.hid ((heap_alloc_old x1 (.cells #[] 77) _ (Array.getElem?_eq_some_iff.1 HRW.out).1).trans HRW.out)
            generalize x1.alloc (.cells #[] 77) = x2 at *
            generalize x1.heap.size = eb at *
            refine wpAnyL_ready (rs := [3]) (by kernel_rfl) (by simp) ?_
            refine (AllReadyL.cons rfl (fun K hK => ?_) AllReadyL.nil)
            refine Eq.mpr (if_pos (by kernel_rfl)) ?_
            refine wp_append_none (.tmp 47) (.tmp 49) 31 rfl w6.heap.size 77 i0 7 Try.underlying31 HI.out (.slice (some ⟨eb, 0, none⟩) 0 0) 0 [] rfl HOE.out rfl ?_
            refine hK.out _ _ ?_ (fun hHeld => ?_)
            · (try dsimp only); exact HS.out _ HBx2.out
            clear hK K
            refine wpAnyL_ready (rs := [10]) (by kernel_rfl) (by simp) ?_
            refine (AllReadyL.cons rfl (fun K hK => ?_) AllReadyL.nil)
            refine Eq.mpr (if_pos (by kernel_rfl)) ?_
            refine wp_append_own _ (.tmp 50) (.tmp 56) 31 rfl w6.heap.size 77 i0 (.agg #[.int .i64 0, .int .i64 0, .int .i64 0, .int .i64 0, .int .i64 0, .int .i64 0, .string ByteArray.empty]) 7 64 Try.underlying31 HI.out hz0' hz1' hz2' rfl (by omega) (.slice (some ⟨eb, 0, none⟩) 0 0) 0 [] rfl HOE.out ⟨rb, 0, none⟩ 1 1 [.int .i64 i, .int .i64 j, .int .i64 k, .int .i64 ac, .int .i64 lo, .int .i64 hi, .string (strOfNums (refB k ac lo hi l))] rfl rfl (row_cells HRW.out) (by simp [Value.oneCell']) (by simp [maxLen]) (by omega) HBx2.out.size ?_
            intro v2 x4 q2 q2g q2n
            rw [Nat.zero_add] at q2
            rcases q2.2 with ⟨ev, _⟩ | ⟨g2, c2, cur2, rfl, hg2, _⟩
            · exact absurd (q2n.1 ev).1 (by simp)
            have HBx4 := Lib.hid (HBx2.out.grown q2g HBx2.out.size (fun k e => by cases e; exact HEB.out))
            have q3 : x4.ownsRow w.heap.size 77 7 (.slice (some ⟨g2, 0, none⟩) 1 c2) 1 (fr [] ++ rowR (numI i j, ⟨k, ac, lo, hi, refB k ac lo hi l⟩)) := by rw [row_num HOK.out]; exact own_less q2 HA6.out.bel.size
            have HAE := Lib.hid (show AddAt w (some ⟨g2, 0, none⟩) 1 c2 ch i j k ac lo hi (x4.setCell ⟨w.heap.size, 0, none⟩ (.slice (some ⟨g2, 0, none⟩) 1 c2)) ∧ RefP w base ([] ++ [(numI i j, ⟨k, ac, lo, hi, refB k ac lo hi l⟩)]) ch 0 (.returned (.tuple #[.agg #[.slice (some ⟨g2, 0, none⟩) 1 c2, .int .i64 ch], .int .i64 0])) (((x4.setCell ⟨w.heap.size, 0, none⟩ (.slice (some ⟨g2, 0, none⟩) 1 c2)).setCell ⟨w.heap.size + 3, 0, none⟩ (.slice (some ⟨g2, 0, none⟩) 1 c2)).setCell ⟨w.heap.size + 3, 1, none⟩ (.int .i64 ch)) from add_end (n := 0) (R := []) (HA6.out.below HBx4.out) rfl HBS.out q3)
            clear q2 q2g q2n q3 hg2
            refine hK.out _ _ ?_ (fun hHeld => ?_)
            · (try dsimp only); exact HS.out _ HBx4.out
            clear hK K
            refine wpAnyL_take (i := 11) (v := ?_) rfl (by kernel_rfl) (by kernel_rfl) (by kernel_rfl) (by kernel_rfl) (by kernel_rfl) (fun _ _ _ h => h) (Or.inl ⟨by rfl, ?_⟩) (by assumption) ?_
            rotate_left
            · intro wq hSw; (try dsimp only at hSw); first | (go_simp; done) | (go_simp; with_reducible rfl) | with_reducible rfl
            try simp only [Act.put, List.setIfInBounds_toArray, List.set_cons_zero, List.set_cons_succ]
            obtain ⟨d0, d1⟩ := (HA6.out.below HBx4.out).dict.cells
            have fd0 := frozen_of_row _ _ 0 _ _ (HA6.out.below HBx4.out).dict
            refine wpAnyL_ready (rs := [12]) (by kernel_rfl) (by simp) ?_
            refine AllReadyL.last rfl (fun K hK => ?_)
            go_simp
            refine hK.out _ _ ?_
            clear hK K
            refine wpAnyL_done (by kernel_rfl) ?_ _
            clear hHeld d0 d1 fd0
            have HAZ := Lib.hid HAE.out.1
            have HRZ := Lib.hid HAE.out.2
            clear HAE
            generalize x4.setCell ⟨w.heap.size, 0, none⟩ (.slice (some ⟨g2, 0, none⟩) 1 c2) = x9 at *
            obtain ⟨d0, d1⟩ := HAZ.out.dict.cells
            obtain ⟨z0, z1⟩ := HAZ.out.zero.cells
            have fz0 := frozen_of_row _ _ 0 _ _ HAZ.out.zero
            have fz1 := frozen_of_row _ _ 1 _ _ HAZ.out.zero
            go_wp2_with fail
            exact bodyPost_ret ((results_cell_tmp_row rfl _ _ (w.heap.size + 3) _ _ _ _ rfl HAZ.out.zero.two Try.underlying33 rfl info_dct).trans (by rfl)) rfl (.inr ⟨HKK.out, HMM.out, .inr ⟨HF.out, .inr ⟨HNO.out, .inr ⟨HH5.out, HRZ.out⟩⟩⟩⟩)
        · cases ea
          have hlt : gs < w.heap.size := (Array.getElem?_eq_some_iff.1 hgs).1
          have hfl := fr_len R
          have HSRC := Lib.hid (fun x (hx : Below w.heap.size w x) jj u (hu : (fr R)[jj]? = some u) => show x.cell? ((⟨gs, 0, none⟩ : Addr).add jj) = some u from by
            rw [add_plainR, Nat.zero_add, hx.cell (p := ⟨gs, jj, none⟩) hlt, own_cell HOWN.out (by have := (List.getElem?_eq_some_iff.1 hu).1; have := HNL.out; omega), hu])
          have HL := Lib.hid (show (fr R).length = n * 7 by rw [hfl, HNL.out])
          have HX := Lib.hid (fr_one R)
          clear hfl hgs
          have hS : ∀ x, Below w6.heap.size w6 x → x.cell? ⟨w.heap.size, 0, none⟩ = some (.slice (some ⟨gs, 0, none⟩) n c) ∧ x.cell? ⟨w.heap.size + 1, 0, none⟩ = some (.int .i64 i) ∧ x.cell? ⟨w.heap.size + 1, 1, none⟩ = some (.int .i64 j) ∧ x.cell? ⟨w.heap.size + 2, 0, none⟩ = some (.int .i64 k) ∧ x.cell? ⟨w.heap.size + 2, 1, none⟩ = some (.int .i64 ac) ∧ x.cell? ⟨w.heap.size + 2, 2, none⟩ = some (.int .i64 lo) ∧ x.cell? ⟨w.heap.size + 2, 3, none⟩ = some (.int .i64 hi) ∧ (convert 58 9 (.slice A4 FL c4)).run Try.prog x = .ok (.string (strOfNums (refB k ac lo hi l))) x := fun x hx =>
            ⟨(HA6.out.below hx).dict.cells.1, (HA6.out.below hx).key.cells.1, (HA6.out.below hx).key.cells.2, (HA6.out.below hx).spc.cells.1, (HA6.out.below hx).spc.cells.2.1, (HA6.out.below hx).spc.cells.2.2.1, (HA6.out.below hx).spc.cells.2.2.2, conv_any (HY6.out.step hx)⟩
          have HS := Lib.hid hS
          obtain ⟨i0, hi0, hz0', hz1', hz2'⟩ := info_parts info_elR
          have HI := Lib.hid hi0
          clear hS hi0
          go_wp2_with fail
          clear d0 d1 c0 c1 p0 p1 p2 p3 z0 z1 fz0 fz1
          refine wp_region_last (fun w' => w'.cell? ⟨w.heap.size, 0, none⟩ = some (.slice (some ⟨gs, 0, none⟩) n c) ∧ w'.cell? ⟨w.heap.size + 1, 0, none⟩ = some (.int .i64 i) ∧ w'.cell? ⟨w.heap.size + 1, 1, none⟩ = some (.int .i64 j) ∧ w'.cell? ⟨w.heap.size + 2, 0, none⟩ = some (.int .i64 k) ∧ w'.cell? ⟨w.heap.size + 2, 1, none⟩ = some (.int .i64 ac) ∧ w'.cell? ⟨w.heap.size + 2, 2, none⟩ = some (.int .i64 lo) ∧ w'.cell? ⟨w.heap.size + 2, 3, none⟩ = some (.int .i64 hi) ∧ (convert 58 9 (.slice A4 FL c4)).run Try.prog w' = .ok (.string (strOfNums (refB k ac lo hi l))) w') 12 (by kernel_rfl) (HS.out _ (kD _)) (fun hHeld => ?_)
          refine wpAnyL_take (i := 1) (v := ?_) rfl (by kernel_rfl) (by kernel_rfl) (by kernel_rfl) (by kernel_rfl) (by kernel_rfl) (fun _ _ _ h => h) (Or.inl ⟨by rfl, ?_⟩) (by assumption) ?_
          rotate_left
          · intro wq hSw; (try dsimp only at hSw); first | (go_simp; done) | (go_simp; with_reducible rfl) | with_reducible rfl
          try simp only [Act.put, List.setIfInBounds_toArray, List.set_cons_zero, List.set_cons_succ]
          refine wpAnyL_take (i := 2) (v := ?_) rfl (by kernel_rfl) (by kernel_rfl) (by kernel_rfl) (by kernel_rfl) (by kernel_rfl) (fun _ _ _ h => h) (Or.inl ⟨by rfl, ?_⟩) (by assumption) ?_
          rotate_left
          · intro wq hSw; (try dsimp only at hSw); first | (go_simp; done) | (go_simp; with_reducible rfl) | with_reducible rfl
          try simp only [Act.put, List.setIfInBounds_toArray, List.set_cons_zero, List.set_cons_succ]
          refine wpAnyL_take (i := 4) (v := ?_) rfl (by kernel_rfl) (by kernel_rfl) (by kernel_rfl) (by kernel_rfl) (by kernel_rfl) (fun _ _ _ h => h) (Or.inl ⟨by rfl, ?_⟩) (by assumption) ?_
          rotate_left
          · intro wq hSw; (try dsimp only at hSw); first | (go_simp; done) | (go_simp; with_reducible rfl) | with_reducible rfl
          try simp only [Act.put, List.setIfInBounds_toArray, List.set_cons_zero, List.set_cons_succ]
          refine wpAnyL_take (i := 5) (v := ?_) rfl (by kernel_rfl) (by kernel_rfl) (by kernel_rfl) (by kernel_rfl) (by kernel_rfl) (fun _ _ _ h => h) (Or.inl ⟨by rfl, ?_⟩) (by assumption) ?_
          rotate_left
          · intro wq hSw; (try dsimp only at hSw); first | (go_simp; done) | (go_simp; with_reducible rfl) | with_reducible rfl
          try simp only [Act.put, List.setIfInBounds_toArray, List.set_cons_zero, List.set_cons_succ]
          refine wpAnyL_take (i := 6) (v := ?_) rfl (by kernel_rfl) (by kernel_rfl) (by kernel_rfl) (by kernel_rfl) (by kernel_rfl) (fun _ _ _ h => h) (Or.inl ⟨by rfl, ?_⟩) (by assumption) ?_
          rotate_left
          · intro wq hSw; (try dsimp only at hSw); first | (go_simp; done) | (go_simp; with_reducible rfl) | with_reducible rfl
          try simp only [Act.put, List.setIfInBounds_toArray, List.set_cons_zero, List.set_cons_succ]
          refine wpAnyL_take (i := 7) (v := ?_) rfl (by kernel_rfl) (by kernel_rfl) (by kernel_rfl) (by kernel_rfl) (by kernel_rfl) (fun _ _ _ h => h) (Or.inl ⟨by rfl, ?_⟩) (by assumption) ?_
          rotate_left
          · intro wq hSw; (try dsimp only at hSw); first | (go_simp; done) | (go_simp; with_reducible rfl) | with_reducible rfl
          try simp only [Act.put, List.setIfInBounds_toArray, List.set_cons_zero, List.set_cons_succ]
          refine wpAnyL_take (i := 8) (v := ?_) rfl (by kernel_rfl) (by kernel_rfl) (by kernel_rfl) (by kernel_rfl) (by kernel_rfl) (fun _ _ _ h => h) (Or.inl ⟨by rfl, ?_⟩) (by assumption) ?_
          rotate_left
          · intro wq hSw; (try dsimp only at hSw); first | (go_simp; done) | (go_simp; with_reducible rfl) | with_reducible rfl
          try simp only [Act.put, List.setIfInBounds_toArray, List.set_cons_zero, List.set_cons_succ]
          have HBx0 := Lib.hid (kD w6)
          generalize w6.drew = x0 at *
          refine wpAnyL_ready (rs := [0, 9]) (by kernel_rfl) (by simp) ?_
          refine (AllReadyL.cons rfl (fun K hK => ?_) (AllReadyL.cons rfl (fun K hK => ?_) AllReadyL.nil))
          · go_simp
            have HBx1 := Lib.hid (kA HBx0.out (.cells #[] 77))
            refine hK.out _ _ ?_ (fun hHeld => ?_)
            · (try dsimp only); exact HS.out _ HBx1.out
            clear hK K
            have HOE := Lib.hid (own_made x0 w6.heap.size 77 7 HBx0.out.size)
            have HEB := Lib.hid HBx0.out.size
            have HLT := Lib.hid (show x0.heap.size < (x0.alloc (.cells #[] 77)).heap.size by simp)
            generalize x0.alloc (.cells #[] 77) = x1 at *
            generalize x0.heap.size = eb at *
            refine wpAnyL_ready (rs := [3, 9]) (by kernel_rfl) (by simp) ?_
            refine (AllReadyL.cons rfl (fun K hK => ?_) (AllReadyL.cons rfl (fun K hK => ?_) AllReadyL.nil))
            · refine Eq.mpr (if_pos (by kernel_rfl)) ?_
              refine wp_append_own _ (.tmp 47) (.tmp 49) 31 rfl w6.heap.size 77 i0 (.agg #[.int .i64 0, .int .i64 0, .int .i64 0, .int .i64 0, .int .i64 0, .int .i64 0, .string ByteArray.empty]) 7 64 Try.underlying31 HI.out hz0' hz1' hz2' rfl (by omega) (.slice (some ⟨eb, 0, none⟩) 0 0) 0 [] rfl HOE.out ⟨gs, 0, none⟩ n c (fr R) rfl HL.out (HSRC.out x1 (kF HBx1.out HA6.out.bel)) HX.out (by simp [maxLen]; omega) (by omega) HBx1.out.size ?_
              intro v1 x2 q1 q1g q1n
              rw [Nat.zero_add, List.nil_append] at q1
              rcases q1.2 with ⟨ev, _⟩ | ⟨g1, cap1, cur1, rfl, hg1, _⟩
              · exact absurd (q1n.1 ev).1 (by simp)
              have HBx2 := Lib.hid (HBx1.out.grown q1g HBx1.out.size (fun k e => by cases e; exact HEB.out))
              have HO1 := Lib.hid q1
              have HG1 := Lib.hid hg1
              clear q1 q1g q1n hg1
              refine hK.out _ _ ?_ (fun hHeld => ?_)
              · (try dsimp only); exact HS.out _ HBx2.out
              clear hK K
              refine wpAnyL_ready (rs := [9]) (by kernel_rfl) (by simp) ?_
              refine (AllReadyL.cons rfl (fun K hK => ?_) AllReadyL.nil)
              go_simp
              have HBx3 := Lib.hid (kA HBx2.out (.cells #[.int .i64 i, .int .i64 j, .int .i64 k, .int .i64 ac, .int .i64 lo, .int .i64 hi, .string (strOfNums (refB k ac lo hi l))] 77))
              refine hK.out _ _ ?_ (fun hHeld => ?_)
              · (try dsimp only); exact HS.out _ HBx3.out
              clear hK K
              have HRW := Lib.hid (heap_alloc_new x2 (.cells #[.int .i64 i, .int .i64 j, .int .i64 k, .int .i64 ac, .int .i64 lo, .int .i64 hi, .string (strOfNums (refB k ac lo hi l))] 77))
              have hba : Below x2.heap.size x2 (x2.alloc (.cells #[.int .i64 i, .int .i64 j, .int .i64 k, .int .i64 ac, .int .i64 lo, .int .i64 hi, .string (strOfNums (refB k ac lo hi l))] 77)) := (Below.refl _ _).alloc (Nat.le_refl _) _
              have HO1 := Lib.hid (own_keep HO1.out hba)
              clear hba
              generalize x2.alloc (.cells #[.int .i64 i, .int .i64 j, .int .i64 k, .int .i64 ac, .int .i64 lo, .int .i64 hi, .string (strOfNums (refB k ac lo hi l))] 77) = x3 at *
              generalize x2.heap.size = rb at *
              refine wpAnyL_ready (rs := [10]) (by kernel_rfl) (by simp) ?_
              refine (AllReadyL.cons rfl (fun K hK => ?_) AllReadyL.nil)
              refine Eq.mpr (if_pos (by kernel_rfl)) ?_
              refine wp_append_own _ (.tmp 50) (.tmp 56) 31 rfl w6.heap.size 77 i0 (.agg #[.int .i64 0, .int .i64 0, .int .i64 0, .int .i64 0, .int .i64 0, .int .i64 0, .string ByteArray.empty]) 7 64 Try.underlying31 HI.out hz0' hz1' hz2' rfl (by omega) (.slice (some ⟨g1, 0, none⟩) n cap1) n (fr R) rfl HO1.out ⟨rb, 0, none⟩ 1 1 [.int .i64 i, .int .i64 j, .int .i64 k, .int .i64 ac, .int .i64 lo, .int .i64 hi, .string (strOfNums (refB k ac lo hi l))] rfl rfl (row_cells HRW.out) (by simp [Value.oneCell']) (by simp [maxLen]; omega) (by omega) HBx3.out.size ?_
              intro v2 x4 q2 q2g q2n
              rcases q2.2 with ⟨ev, _⟩ | ⟨g2, c2, cur2, rfl, hg2, _⟩
              · exact absurd (q2n.1 ev).1 (by simp)
              have HBx4 := Lib.hid (HBx3.out.grown q2g HBx3.out.size (fun k e => by cases e; exact HG1.out))
              have q3 : x4.ownsRow w.heap.size 77 7 (.slice (some ⟨g2, 0, none⟩) (n + 1) c2) (n + 1) (fr R ++ rowR (numI i j, ⟨k, ac, lo, hi, refB k ac lo hi l⟩)) := by rw [row_num HOK.out]; exact own_less q2 HA6.out.bel.size
              have HAE := Lib.hid (add_end (HA6.out.below HBx4.out) HNL.out HBS.out q3)
              clear q2 q2g q2n q3 hg2
              refine hK.out _ _ ?_ (fun hHeld => ?_)
              · (try dsimp only); exact HS.out _ HBx4.out
              clear hK K
              refine wpAnyL_take (i := 11) (v := ?_) rfl (by kernel_rfl) (by kernel_rfl) (by kernel_rfl) (by kernel_rfl) (by kernel_rfl) (fun _ _ _ h => h) (Or.inl ⟨by rfl, ?_⟩) (by assumption) ?_
              rotate_left
              · intro wq hSw; (try dsimp only at hSw); first | (go_simp; done) | (go_simp; with_reducible rfl) | with_reducible rfl
              try simp only [Act.put, List.setIfInBounds_toArray, List.set_cons_zero, List.set_cons_succ]
              obtain ⟨d0, d1⟩ := (HA6.out.below HBx4.out).dict.cells
              have fd0 := frozen_of_row _ _ 0 _ _ (HA6.out.below HBx4.out).dict
              refine wpAnyL_ready (rs := [12]) (by kernel_rfl) (by simp) ?_
              refine AllReadyL.last rfl (fun K hK => ?_)
              go_simp
              refine hK.out _ _ ?_
              clear hK K
              refine wpAnyL_done (by kernel_rfl) ?_ _
              clear hHeld d0 d1 fd0
              have HAZ := Lib.hid HAE.out.1
              have HRZ := Lib.hid HAE.out.2
              clear HAE
              generalize x4.setCell ⟨w.heap.size, 0, none⟩ (.slice (some ⟨g2, 0, none⟩) (n + 1) c2) = x9 at *
              obtain ⟨d0, d1⟩ := HAZ.out.dict.cells
              obtain ⟨z0, z1⟩ := HAZ.out.zero.cells
              have fz0 := frozen_of_row _ _ 0 _ _ HAZ.out.zero
              have fz1 := frozen_of_row _ _ 1 _ _ HAZ.out.zero
              go_wp2_with fail
              exact bodyPost_ret ((results_cell_tmp_row rfl _ _ (w.heap.size + 3) _ _ _ _ rfl HAZ.out.zero.two Try.underlying33 rfl info_dct).trans (by rfl)) rfl (.inr ⟨HKK.out, HMM.out, .inr ⟨HF.out, .inr ⟨HNO.out, .inr ⟨HH5.out, HRZ.out⟩⟩⟩⟩)
            · go_simp
              have HBx2 := Lib.hid (kA HBx1.out (.cells #[.int .i64 i, .int .i64 j, .int .i64 k, .int .i64 ac, .int .i64 lo, .int .i64 hi, .string (strOfNums (refB k ac lo hi l))] 77))
              refine hK.out _ _ ?_ (fun hHeld => ?_)
              · (try dsimp only); exact HS.out _ HBx2.out
              clear hK K
              have HRW := Lib.hid (heap_alloc_new x1 (.cells #[.int .i64 i, .int .i64 j, .int .i64 k, .int .i64 ac, .int .i64 lo, .int .i64 hi, .string (strOfNums (refB k ac lo hi l))] 77))
              have hba : Below x1.heap.size x1 (x1.alloc (.cells #[.int .i64 i, .int .i64 j, .int .i64 k, .int .i64 ac, .int .i64 lo, .int .i64 hi, .string (strOfNums (refB k ac lo hi l))] 77)) := (Below.refl _ _).alloc (Nat.le_refl _) _
              have HOE := Lib.hid (own_keep HOE.out hba)
              have HNE := Lib.hid (show ¬ x1.heap.size = eb by have := HLT.out; omega)
              clear hba
              generalize x1.alloc (.cells #[.int .i64 i, .int .i64 j, .int .i64 k, .int .i64 ac, .int .i64 lo, .int .i64 hi, .string (strOfNums (refB k ac lo hi l))] 77) = x2 at *
              generalize x1.heap.size = rb at *
              refine wpAnyL_ready (rs := [3]) (by kernel_rfl) (by simp) ?_
              refine (AllReadyL.cons rfl (fun K hK => ?_) AllReadyL.nil)
              refine Eq.mpr (if_pos (by kernel_rfl)) ?_
              refine wp_append_own _ (.tmp 47) (.tmp 49) 31 rfl w6.heap.size 77 i0 (.agg #[.int .i64 0, .int .i64 0, .int .i64 0, .int .i64 0, .int .i64 0, .int .i64 0, .string ByteArray.empty]) 7 64 Try.underlying31 HI.out hz0' hz1' hz2' rfl (by omega) (.slice (some ⟨eb, 0, none⟩) 0 0) 0 [] rfl HOE.out ⟨gs, 0, none⟩ n c (fr R) rfl HL.out (HSRC.out x2 (kF HBx2.out HA6.out.bel)) HX.out (by simp [maxLen]; omega) (by omega) HBx2.out.size ?_
              intro v1 x3 q1 q1g q1n
              rw [Nat.zero_add, List.nil_append] at q1
              rcases q1.2 with ⟨ev, _⟩ | ⟨g1, cap1, cur1, rfl, hg1, _⟩
              · exact absurd (q1n.1 ev).1 (by simp)
              have HBx3 := Lib.hid (HBx2.out.grown q1g HBx2.out.size (fun k e => by cases e; exact HEB.out))
              have HO1 := Lib.hid q1
              have HG1 := Lib.hid hg1
              have HRW := Lib.hid ((q1g.block rb (Array.getElem?_eq_some_iff.1 HRW.out).1 (fun e => by cases e; exact HNE.out rfl)).trans HRW.out)
              clear q1 q1g q1n hg1
              refine hK.out _ _ ?_ (fun hHeld => ?_)
              · (try dsimp only); exact HS.out _ HBx3.out
              clear hK K
              refine wpAnyL_ready (rs := [10]) (by kernel_rfl) (by simp) ?_
              refine (AllReadyL.cons rfl (fun K hK => ?_) AllReadyL.nil)
              refine Eq.mpr (if_pos (by kernel_rfl)) ?_
              refine wp_append_own _ (.tmp 50) (.tmp 56) 31 rfl w6.heap.size 77 i0 (.agg #[.int .i64 0, .int .i64 0, .int .i64 0, .int .i64 0, .int .i64 0, .int .i64 0, .string ByteArray.empty]) 7 64 Try.underlying31 HI.out hz0' hz1' hz2' rfl (by omega) (.slice (some ⟨g1, 0, none⟩) n cap1) n (fr R) rfl HO1.out ⟨rb, 0, none⟩ 1 1 [.int .i64 i, .int .i64 j, .int .i64 k, .int .i64 ac, .int .i64 lo, .int .i64 hi, .string (strOfNums (refB k ac lo hi l))] rfl rfl (row_cells HRW.out) (by simp [Value.oneCell']) (by simp [maxLen]; omega) (by omega) HBx3.out.size ?_
              intro v2 x4 q2 q2g q2n
              rcases q2.2 with ⟨ev, _⟩ | ⟨g2, c2, cur2, rfl, hg2, _⟩
              · exact absurd (q2n.1 ev).1 (by simp)
              have HBx4 := Lib.hid (HBx3.out.grown q2g HBx3.out.size (fun k e => by cases e; exact HG1.out))
              have q3 : x4.ownsRow w.heap.size 77 7 (.slice (some ⟨g2, 0, none⟩) (n + 1) c2) (n + 1) (fr R ++ rowR (numI i j, ⟨k, ac, lo, hi, refB k ac lo hi l⟩)) := by rw [row_num HOK.out]; exact own_less q2 HA6.out.bel.size
              have HAE := Lib.hid (add_end (HA6.out.below HBx4.out) HNL.out HBS.out q3)
              clear q2 q2g q2n q3 hg2
              refine hK.out _ _ ?_ (fun hHeld => ?_)
              · (try dsimp only); exact HS.out _ HBx4.out
              clear hK K
              refine wpAnyL_take (i := 11) (v := ?_) rfl (by kernel_rfl) (by kernel_rfl) (by kernel_rfl) (by kernel_rfl) (by kernel_rfl) (fun _ _ _ h => h) (Or.inl ⟨by rfl, ?_⟩) (by assumption) ?_
              rotate_left
              · intro wq hSw; (try dsimp only at hSw); first | (go_simp; done) | (go_simp; with_reducible rfl) | with_reducible rfl
              try simp only [Act.put, List.setIfInBounds_toArray, List.set_cons_zero, List.set_cons_succ]
              obtain ⟨d0, d1⟩ := (HA6.out.below HBx4.out).dict.cells
              have fd0 := frozen_of_row _ _ 0 _ _ (HA6.out.below HBx4.out).dict
              refine wpAnyL_ready (rs := [12]) (by kernel_rfl) (by simp) ?_
              refine AllReadyL.last rfl (fun K hK => ?_)
              go_simp
              refine hK.out _ _ ?_
              clear hK K
              refine wpAnyL_done (by kernel_rfl) ?_ _
              clear hHeld d0 d1 fd0
              have HAZ := Lib.hid HAE.out.1
              have HRZ := Lib.hid HAE.out.2
              clear HAE
              generalize x4.setCell ⟨w.heap.size, 0, none⟩ (.slice (some ⟨g2, 0, none⟩) (n + 1) c2) = x9 at *
              obtain ⟨d0, d1⟩ := HAZ.out.dict.cells
              obtain ⟨z0, z1⟩ := HAZ.out.zero.cells
              have fz0 := frozen_of_row _ _ 0 _ _ HAZ.out.zero
              have fz1 := frozen_of_row _ _ 1 _ _ HAZ.out.zero
              go_wp2_with fail
              exact bodyPost_ret ((results_cell_tmp_row rfl _ _ (w.heap.size + 3) _ _ _ _ rfl HAZ.out.zero.two Try.underlying33 rfl info_dct).trans (by rfl)) rfl (.inr ⟨HKK.out, HMM.out, .inr ⟨HF.out, .inr ⟨HNO.out, .inr ⟨HH5.out, HRZ.out⟩⟩⟩⟩)
          · go_simp
            have HBx1 := Lib.hid (kA HBx0.out (.cells #[.int .i64 i, .int .i64 j, .int .i64 k, .int .i64 ac, .int .i64 lo, .int .i64 hi, .string (strOfNums (refB k ac lo hi l))] 77))
            refine hK.out _ _ ?_ (fun hHeld => ?_)
            · (try dsimp only); exact HS.out _ HBx1.out
            clear hK K
            have HRW := Lib.hid (heap_alloc_new x0 (.cells #[.int .i64 i, .int .i64 j, .int .i64 k, .int .i64 ac, .int .i64 lo, .int .i64 hi, .string (strOfNums (refB k ac lo hi l))] 77))
            have hba : Below x0.heap.size x0 (x0.alloc (.cells #[.int .i64 i, .int .i64 j, .int .i64 k, .int .i64 ac, .int .i64 lo, .int .i64 hi, .string (strOfNums (refB k ac lo hi l))] 77)) := (Below.refl _ _).alloc (Nat.le_refl _) _
            clear hba
            generalize x0.alloc (.cells #[.int .i64 i, .int .i64 j, .int .i64 k, .int .i64 ac, .int .i64 lo, .int .i64 hi, .string (strOfNums (refB k ac lo hi l))] 77) = x1 at *
            generalize x0.heap.size = rb at *
            refine wpAnyL_ready (rs := [0]) (by kernel_rfl) (by simp) ?_
            refine (AllReadyL.cons rfl (fun K hK => ?_) AllReadyL.nil)
            go_simp
            have HBx2 := Lib.hid (kA HBx1.out (.cells #[] 77))
            refine hK.out _ _ ?_ (fun hHeld => ?_)
            · (try dsimp only); exact HS.out _ HBx2.out
            clear hK K
            have HOE := Lib.hid (own_made x1 w6.heap.size 77 7 HBx1.out.size)
            have HEB := Lib.hid HBx1.out.size
            have HLT := Lib.hid (show x1.heap.size < (x1.alloc (.cells #[] 77)).heap.size by simp)
            have HNE := Lib.hid (show ¬ rb = x1.heap.size by have := (Array.getElem?_eq_some_iff.1 HRW.out).1; omega)
            have HRW := Lib.hid ((heap_alloc_old x1 (.cells #[] 77) _ (Array.getElem?_eq_some_iff.1 HRW.out).1).trans HRW.out)
            generalize x1.alloc (.cells #[] 77) = x2 at *
            generalize x1.heap.size = eb at *
            refine wpAnyL_ready (rs := [3]) (by kernel_rfl) (by simp) ?_
            refine (AllReadyL.cons rfl (fun K hK => ?_) AllReadyL.nil)
            refine Eq.mpr (if_pos (by kernel_rfl)) ?_
            refine wp_append_own _ (.tmp 47) (.tmp 49) 31 rfl w6.heap.size 77 i0 (.agg #[.int .i64 0, .int .i64 0, .int .i64 0, .int .i64 0, .int .i64 0, .int .i64 0, .string ByteArray.empty]) 7 64 Try.underlying31 HI.out hz0' hz1' hz2' rfl (by omega) (.slice (some ⟨eb, 0, none⟩) 0 0) 0 [] rfl HOE.out ⟨gs, 0, none⟩ n c (fr R) rfl HL.out (HSRC.out x2 (kF HBx2.out HA6.out.bel)) HX.out (by simp [maxLen]; omega) (by omega) HBx2.out.size ?_
            intro v1 x3 q1 q1g q1n
            rw [Nat.zero_add, List.nil_append] at q1
            rcases q1.2 with ⟨ev, _⟩ | ⟨g1, cap1, cur1, rfl, hg1, _⟩
            · exact absurd (q1n.1 ev).1 (by simp)
            have HBx3 := Lib.hid (HBx2.out.grown q1g HBx2.out.size (fun k e => by cases e; exact HEB.out))
            have HO1 := Lib.hid q1
            have HG1 := Lib.hid hg1
            have HRW := Lib.hid ((q1g.block rb (Array.getElem?_eq_some_iff.1 HRW.out).1 (fun e => by cases e; exact HNE.out rfl)).trans HRW.out)
            clear q1 q1g q1n hg1
            refine hK.out _ _ ?_ (fun hHeld => ?_)
            · (try dsimp only); exact HS.out _ HBx3.out
            clear hK K
            refine wpAnyL_ready (rs := [10]) (by kernel_rfl) (by simp) ?_
            refine (AllReadyL.cons rfl (fun K hK => ?_) AllReadyL.nil)
            refine Eq.mpr (if_pos (by kernel_rfl)) ?_
            refine wp_append_own _ (.tmp 50) (.tmp 56) 31 rfl w6.heap.size 77 i0 (.agg #[.int .i64 0, .int .i64 0, .int .i64 0, .int .i64 0, .int .i64 0, .int .i64 0, .string ByteArray.empty]) 7 64 Try.underlying31 HI.out hz0' hz1' hz2' rfl (by omega) (.slice (some ⟨g1, 0, none⟩) n cap1) n (fr R) rfl HO1.out ⟨rb, 0, none⟩ 1 1 [.int .i64 i, .int .i64 j, .int .i64 k, .int .i64 ac, .int .i64 lo, .int .i64 hi, .string (strOfNums (refB k ac lo hi l))] rfl rfl (row_cells HRW.out) (by simp [Value.oneCell']) (by simp [maxLen]; omega) (by omega) HBx3.out.size ?_
            intro v2 x4 q2 q2g q2n
            rcases q2.2 with ⟨ev, _⟩ | ⟨g2, c2, cur2, rfl, hg2, _⟩
            · exact absurd (q2n.1 ev).1 (by simp)
            have HBx4 := Lib.hid (HBx3.out.grown q2g HBx3.out.size (fun k e => by cases e; exact HG1.out))
            have q3 : x4.ownsRow w.heap.size 77 7 (.slice (some ⟨g2, 0, none⟩) (n + 1) c2) (n + 1) (fr R ++ rowR (numI i j, ⟨k, ac, lo, hi, refB k ac lo hi l⟩)) := by rw [row_num HOK.out]; exact own_less q2 HA6.out.bel.size
            have HAE := Lib.hid (add_end (HA6.out.below HBx4.out) HNL.out HBS.out q3)
            clear q2 q2g q2n q3 hg2
            refine hK.out _ _ ?_ (fun hHeld => ?_)
            · (try dsimp only); exact HS.out _ HBx4.out
            clear hK K
            refine wpAnyL_take (i := 11) (v := ?_) rfl (by kernel_rfl) (by kernel_rfl) (by kernel_rfl) (by kernel_rfl) (by kernel_rfl) (fun _ _ _ h => h) (Or.inl ⟨by rfl, ?_⟩) (by assumption) ?_
            rotate_left
            · intro wq hSw; (try dsimp only at hSw); first | (go_simp; done) | (go_simp; with_reducible rfl) | with_reducible rfl
            try simp only [Act.put, List.setIfInBounds_toArray, List.set_cons_zero, List.set_cons_succ]
            obtain ⟨d0, d1⟩ := (HA6.out.below HBx4.out).dict.cells
            have fd0 := frozen_of_row _ _ 0 _ _ (HA6.out.below HBx4.out).dict
            refine wpAnyL_ready (rs := [12]) (by kernel_rfl) (by simp) ?_
            refine AllReadyL.last rfl (fun K hK => ?_)
            go_simp
            refine hK.out _ _ ?_
            clear hK K
            refine wpAnyL_done (by kernel_rfl) ?_ _
            clear hHeld d0 d1 fd0
            have HAZ := Lib.hid HAE.out.1
            have HRZ := Lib.hid HAE.out.2
            clear HAE
            generalize x4.setCell ⟨w.heap.size, 0, none⟩ (.slice (some ⟨g2, 0, none⟩) (n + 1) c2) = x9 at *
            obtain ⟨d0, d1⟩ := HAZ.out.dict.cells
            obtain ⟨z0, z1⟩ := HAZ.out.zero.cells
            have fz0 := frozen_of_row _ _ 0 _ _ HAZ.out.zero
            have fz1 := frozen_of_row _ _ 1 _ _ HAZ.out.zero
            go_wp2_with fail
            exact bodyPost_ret ((results_cell_tmp_row rfl _ _ (w.heap.size + 3) _ _ _ _ rfl HAZ.out.zero.two Try.underlying33 rfl info_dct).trans (by rfl)) rfl (.inr ⟨HKK.out, HMM.out, .inr ⟨HF.out, .inr ⟨HNO.out, .inr ⟨HH5.out, HRZ.out⟩⟩⟩⟩)
  · have HF := Lib.hid hf
    have tf : (fitsA k ac lo hi (refB k ac lo hi l) != 0) = true := by simp [hf]
    clear hf
    go_wp2_with fail
    exact bodyPost_ret ((results_cell_tmp_row rfl _ _ (w.heap.size + 3) _ _ _ _ rfl HA5.out.zero.two Try.underlying33 rfl info_dct).trans (by rfl)) rfl (.inr ⟨HKK.out, HMM.out, .inl ⟨HF.out, HSM.out 14 _ HA5.out.zero HA5.out.bel⟩⟩)
end Go.Proofs.Ytgaoplbocjadaaa