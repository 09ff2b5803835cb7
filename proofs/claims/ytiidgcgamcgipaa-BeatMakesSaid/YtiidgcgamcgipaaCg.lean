/- The walk of BeatMakes. -/
import Derived.Test.YtiidgcgamcgipaaCf
import Derived.Deep.CutBlock
namespace Go.Proofs.Ytiidgcgamcgipaa
open Go.RowKit
set_option linter.unusedSimpArgs false
set_option linter.unusedVariables false

theorem MkAt.rm {w0 w : World} {q c g : Nat} {nd per p x : Int} {o : Option Int} (h : MkAt w0 q c nd per o w) (hf : RmAt w g p x) (hg : w0.heap.size ≤ g) (cs : Array Value) : MkAt w0 q c nd per o (w.setRow g cs) :=
  h.kpt (below_setRow h.bel hg cs) (kpt_setRow hf (by decide) cs) (kpt_setRow hf (by decide) cs) (kpt_setRow hf (by decide) cs) (kpt_setRow hf (by decide) cs) (kpt_setRow hf (by decide) cs)
theorem RmAt.row_of {w : World} {g k : Nat} {p x : Int} (h : RmAt w g p x) (hk : g ≠ k) (cs : Array Value) : RmAt (w.setRow k cs) g p x := (setRow_other w k g cs hk).trans h
set_option maxRecDepth 200000 in
set_option maxHeartbeats 8000000 in
theorem makes_walk (A : Option Addr) (N cc : Nat) (fs : Nat → Int × Bool × Int × Int) (w : World) (h : Els TkC 4 w w.heap.size A N cc fs) :
    Calls Try.prog 4 #[.slice A N cc] w fun e w' => e = .returned (.bool true) ∧ Below w.heap.size w w' := by
  have hcap := h.cap
  have hmax := h.max
  simp only [maxLen] at hmax
  have HL := Lib.hid h
  have HNW := Lib.hid (mk_new w w 7 (by decide) (Below.refl _ _))
  have HNO := Lib.hid (fun w => mk_no w 0 (by decide))
  clear h
  go_enter Try.func4, Try.ntmps4
  go_upto_region 4 with (first
    | (go_at_call 13; refine (HNW.out).mono ?_; rintro e w1 ⟨q, c, rfl, hm1, hq1, hb1⟩; have hba : Below w1.heap.size w1 (w1.alloc (.cells #[.int .i64 0, .int .i64 0] 42)) := (Below.refl _ _).alloc (Nat.le_refl _) _; have HM1 := Lib.hid (hm1.below hba); have HX1 := Lib.hid (show RmAt (w1.alloc (.cells #[.int .i64 0, .int .i64 0] 42)) w1.heap.size 0 0 from heap_alloc_new w1 _); have HG := Lib.hid (show w.heap.size ≤ w1.heap.size from hb1.size); clear hm1 hq1 hb1 hba)
    | (refine wpList_store_row rfl _ (.tmp 5) (.tmp 21) rfl w1.heap.size _ rfl rfl _ _ HX1.out info_rm rfl (one_rm _ _) ?_))
  have HM2 := Lib.hid (HM1.out.rm HX1.out HG.out #[.int .i64 0, .int .i64 (-1)])
  have HR2 := Lib.hid (HX1.out.row 0 (-1))
  clear HNW HM1 HX1
  generalize (w1.alloc (.cells #[.int .i64 0, .int .i64 0] 42)).setRow w1.heap.size #[.int .i64 0, .int .i64 (-1)] = w2 at *
  generalize w1.heap.size = gr at *
  go_wp2_with fail
  go_loopw [6, 7] (fun now i wr => ∃ (j : Nat) (nw per rd : Int) (o : Option Int), j ≤ N ∧ j ≤ 60 ∧ now = .int .i64 nw ∧ i = .int .i64 j ∧ 0 ≤ nw ∧ nw ≤ j * 65535 ∧ Hid (MkAt w q c 7 per o wr) ∧ Hid (RmAt wr gr per rd) ∧ Hid (Rel o rd per) ∧ 0 ≤ per ∧ per ≤ 2147483647) (fun _ i _ => 60 - (intOf i).toNat)
  case atStart => exact ⟨0, 0, 0, -1, none, by omega, by omega, rfl, rfl, by omega, by omega, HM2, HR2, Lib.hid (.inl ⟨rfl, rfl⟩), by omega, by omega⟩
  case round =>
    clear HM2 HR2
    obtain ⟨j, nw, per, rd, o, hj, hj6, rfl, rfl, hn0, hn1, HM, HR, HRel, hp0, hp1⟩ := hrel
    by_cases hlt : j < N ∧ j < 60
    · obtain ⟨hlt, hl6⟩ := hlt
      have hjI : (j : Int) < 60 := by omega
      obtain ⟨bb, off, rfl, hbb, hcell⟩ := HL.out.cells (by omega)
      have HD := Lib.hid (fun y (hy : Below w.heap.size w y) => (hcell j hlt).below hbb hy)
      clear hcell HNO HL
      generalize fs j = xx at *
      obtain ⟨ib, sq, n, m⟩ := xx
      obtain ⟨d0, d1, d2, d3, v0, v1⟩ := HD.out wr HM.out.bel
      simp only at d0 d1 d2 d3 v0 v1
      have e1 : IntKind.i64.wrap ib = ib := IntWalk.i64_in _ (by omega)
      have e2 : IntKind.i64.wrap (nw + ib) = nw + ib := IntWalk.i64_in _ (by omega)
      have HRM := Lib.hid (fun w => rmode_any m w)
      cases sq with
      | true =>
        clear HRM
        by_cases hu : isNu n = true
        · have HU := Lib.hid hu
          have HY := Lib.hid (show isNu (nw + ib) = true from isU_yes (by omega) (by omega))
          obtain ⟨hu0, hu1⟩ := isU_in hu
          have hz0 : ¬ n < 0 := by omega
          have hz1 : ¬ 2147483647 < n := by omega
          clear hu
          go_wp2_with (first
            | (go_at_call 14; refine (mset_any w _ q c 7 per n (nw + ib) o HM.out HU.out HY.out).mono ?_; rintro e w1 ⟨rfl, hm1, ho1⟩; have HM1 := Lib.hid hm1; have HR1 := Lib.hid (HR.out.othm ho1); clear hm1 ho1 d0 d1 d2 d3; obtain ⟨d0, d1, d2, d3, _, _⟩ := HD.out w1 HM1.out.bel; simp only at d0 d1 d2 d3)
            | (go_at_call 15; refine (rset_any n (nw + ib) _ (by omega) (by omega) (by omega) (by omega)).mono ?_; rintro e w2 ⟨rfl, hb2⟩; have HM2 := Lib.hid (HM1.out.below hb2); have HR2 := Lib.hid (HR1.out.below hb2 HR1.out.lt); clear hb2 d0 d1 d2 d3)
            | (refine wpList_store_row rfl _ (.tmp 5) (.tmp 75) rfl gr _ rfl rfl _ _ HR2.out info_rm rfl (one_rm _ _) ?_))
          go_roundw
          case rel => exact ⟨j + 1, (nw + ib), n, (dueE (nw + ib) n (nw + ib)), (oSet n (nw + ib)), by omega, by omega, rfl, by go_num, by omega, by omega, Lib.hid (HM2.out.rm HR2.out HG.out _), Lib.hid (HR2.out.row _ _), Lib.hid (rel_set (by omega) (by omega) (by omega)), by omega, by omega⟩
          case measure => simp [intOf]; omega
        · have HU := Lib.hid (show isNu n = false by simpa using hu)
          have hc : n < 0 ∨ (¬ n < 0 ∧ 2147483647 < n) := by
            by_cases a : n < 0
            · exact .inl a
            · by_cases b : 2147483647 < n
              · exact .inr ⟨a, b⟩
              · exact absurd (isU_yes (by omega) (by omega)) hu
          clear hu
          rcases hc with hc | ⟨hc, hc2⟩
          all_goals
            go_wp2_with (go_at_call 14; refine (mset_bad _ q n (nw + ib) HU.out).mono ?_; rintro e w1 ⟨rfl, rfl⟩)
            go_roundw
            case rel => exact ⟨j + 1, (nw + ib), per, rd, o, by omega, by omega, rfl, by go_num, by omega, by omega, HM, HR, HRel, by omega, by omega⟩
            case measure => simp [intOf]; omega
      | false =>
        by_cases hu : isMd m = true
        · have HU := Lib.hid hu
          rw [hu] at HRM
          clear hu
          rcases rel_not HRel.out (show (nw + ib) ≤ 2147483647 by omega) with ⟨hnd, hnr⟩ | ⟨x, rfl, hx0, hx1, hx2, rfl⟩
          · have HND := Lib.hid hnd
            have HNR := Lib.hid hnr
            clear hnd hnr
            go_upto_region 17 with (first
              | (go_at_call 16; refine (tick_not w _ q c 7 per (nw + ib) m o HM.out HU.out HND.out).mono ?_; rintro e w1 ⟨rfl, hb1⟩; have hba : Below w1.heap.size w1 (w1.alloc (.cells #[.int .i64 0, .bool false, .int .i64 0, .int .u8 0, .int .u8 0, .int .u8 0, .int .u8 0, .int .u8 0, .int .u8 0, .int .u8 0, .int .u8 0] 24)) := (Below.refl _ _).alloc (Nat.le_refl _) _; have HM1 := Lib.hid ((HM.out.below hb1).below hba); have HR1 := Lib.hid ((HR.out.below hb1 HR.out.lt).below hba (HR.out.below hb1 HR.out.lt).lt); have HX1 := Lib.hid (frame_new w1 0 0 false (fun _ => 0)); have HE1 := Lib.hid (show gr < w1.heap.size from (HR.out.below hb1 HR.out.lt).lt); have HQ1 := Lib.hid (show w.heap.size ≤ w1.heap.size from (HM.out.below hb1).bel.size); clear hb1 hba d0 d1 d2 d3)
              | (refine wpList_store_row rfl _ (.tmp 9) (.tmp 87) rfl w1.heap.size _ rfl rfl _ _ HX1.out info_frame rfl (one_frame 0 0 false (fun _ => 0)) ?_))
            have HM2 := Lib.hid (HM1.out.frame HX1.out HQ1.out #[.int .i64 0, .bool false, .int .i64 0, .int .u8 0, .int .u8 0, .int .u8 0, .int .u8 0, .int .u8 0, .int .u8 0, .int .u8 0, .int .u8 0])
            have HR2 := Lib.hid (HR1.out.row_of (Nat.ne_of_lt HE1.out) #[.int .i64 0, .bool false, .int .i64 0, .int .u8 0, .int .u8 0, .int .u8 0, .int .u8 0, .int .u8 0, .int .u8 0, .int .u8 0, .int .u8 0])
            clear HM1 HR1 HX1
            generalize (w1.alloc (.cells #[.int .i64 0, .bool false, .int .i64 0, .int .u8 0, .int .u8 0, .int .u8 0, .int .u8 0, .int .u8 0, .int .u8 0, .int .u8 0, .int .u8 0] 24)).setRow w1.heap.size #[.int .i64 0, .bool false, .int .i64 0, .int .u8 0, .int .u8 0, .int .u8 0, .int .u8 0, .int .u8 0, .int .u8 0, .int .u8 0, .int .u8 0] = w2 at *
            obtain ⟨d0, d1, d2, d3, _, _⟩ := HD.out w2 HM2.out.bel; simp only at d0 d1 d2 d3
            go_upto_region 22 with (first
              | (go_at_call 8; refine (HRM.out _).mono ?_; rintro e w3 ⟨rfl, rfl⟩)
              | (refine wpList_load_row rfl _ (.tmp 5) rfl gr rfl _ _ _ _ HR2.out Try.underlying42 rfl info_rm ?_)
              | (go_at_call 17; refine (rtick_no per rd (nw + ib) _ HNR.out).mono ?_; rintro e w4 ⟨rfl, hb4⟩; have HM4 := Lib.hid (HM2.out.below hb4); have HR4 := Lib.hid (HR2.out.below hb4 HR2.out.lt); clear hb4 d0 d1 d2 d3)
              | (refine wpList_store_row rfl _ (.tmp 5) (.tmp 101) rfl gr _ rfl rfl _ _ HR4.out info_rm rfl (one_rm _ _) ?_))
            have HM5 := Lib.hid (HM4.out.rm HR4.out HG.out #[.int .i64 per, .int .i64 rd])
            have HR5 := Lib.hid (HR4.out.row per rd)
            clear HM4 HR4 HM2 HR2
            generalize w4.setRow gr #[.int .i64 per, .int .i64 rd] = w5 at *
            refine wp_region_last (fun _ => True) 15 (by kernel_rfl) trivial (fun hHeld => ?_)
            replace HM5 := Lib.hid HM5.out.drew
            replace HR5 : Hid (RmAt w5.drew gr per rd) := HR5
            generalize w5.drew = w5 at *
            refine wpAnyL_take (i := 0) (v := ?_) rfl (by kernel_rfl) (by kernel_rfl) (by kernel_rfl) (by kernel_rfl) (by kernel_rfl) (fun _ _ _ h => h) (Or.inl ⟨by rfl, ?_⟩) (by assumption) ?_
            rotate_left
            · intro wq hSw; (try dsimp only at hSw); first | (go_simp; done) | (go_simp; with_reducible rfl) | with_reducible rfl
            try simp only [Act.put, List.setIfInBounds_toArray, List.set_cons_zero, List.set_cons_succ, List.getElem_toArray, List.getElem_cons_zero, List.getElem_cons_succ]
            refine wpAnyL_take (i := 1) (v := ?_) rfl (by kernel_rfl) (by kernel_rfl) (by kernel_rfl) (by kernel_rfl) (by kernel_rfl) (fun _ _ _ h => h) (Or.inl ⟨by rfl, ?_⟩) (by assumption) ?_
            rotate_left
            · intro wq hSw; (try dsimp only at hSw); first | (go_simp; done) | (go_simp; with_reducible rfl) | with_reducible rfl
            try simp only [Act.put, List.setIfInBounds_toArray, List.set_cons_zero, List.set_cons_succ, List.getElem_toArray, List.getElem_cons_zero, List.getElem_cons_succ]
            refine wpAnyL_take (i := 2) (v := .bool false) rfl (by kernel_rfl) (by kernel_rfl) (by kernel_rfl) (by kernel_rfl) (by kernel_rfl) (fun _ _ _ h => h) (Or.inl ⟨by rfl, ?_⟩) (by assumption) ?_
            · intro wq hSw; (try dsimp only at hSw); first | (go_simp; done) | (go_simp; with_reducible rfl) | with_reducible rfl
            try simp only [Act.put, List.setIfInBounds_toArray, List.set_cons_zero, List.set_cons_succ, List.getElem_toArray, List.getElem_cons_zero, List.getElem_cons_succ]
            refine wpAnyL_take (i := 3) (v := .bool false) rfl (by kernel_rfl) (by kernel_rfl) (by kernel_rfl) (by kernel_rfl) (by kernel_rfl) (fun _ _ _ h => h) (Or.inl ⟨by rfl, ?_⟩) (by assumption) ?_
            · intro wq hSw; (try dsimp only at hSw); first | (go_simp; done) | (go_simp; with_reducible rfl) | with_reducible rfl
            try simp only [Act.put, List.setIfInBounds_toArray, List.set_cons_zero, List.set_cons_succ, List.getElem_toArray, List.getElem_cons_zero, List.getElem_cons_succ]
            refine wpAnyL_take (i := 4) (v := ?_) rfl (by kernel_rfl) (by kernel_rfl) (by kernel_rfl) (by kernel_rfl) (by kernel_rfl) (fun _ _ _ h => h) (Or.inl ⟨by rfl, ?_⟩) (by assumption) ?_
            rotate_left
            · intro wq hSw; (try dsimp only at hSw); first | (go_simp; done) | (go_simp; with_reducible rfl) | with_reducible rfl
            try simp only [Act.put, List.setIfInBounds_toArray, List.set_cons_zero, List.set_cons_succ, List.getElem_toArray, List.getElem_cons_zero, List.getElem_cons_succ]
            refine wpAnyL_take (i := 5) (v := ?_) rfl (by kernel_rfl) (by kernel_rfl) (by kernel_rfl) (by kernel_rfl) (by kernel_rfl) (fun _ _ _ h => h) (Or.inl ⟨by rfl, ?_⟩) (by assumption) ?_
            rotate_left
            · intro wq hSw; (try dsimp only at hSw); first | (go_simp; done) | (go_simp; with_reducible rfl) | with_reducible rfl
            try simp only [Act.put, List.setIfInBounds_toArray, List.set_cons_zero, List.set_cons_succ, List.getElem_toArray, List.getElem_cons_zero, List.getElem_cons_succ]
            refine wpAnyL_take (i := 6) (v := undef) rfl (by kernel_rfl) (by kernel_rfl) (by kernel_rfl) (by kernel_rfl) (by kernel_rfl) (fun _ _ _ h => h) (Or.inr ⟨by rfl, rfl⟩) (by assumption) ?_
            try simp only [Act.put, List.setIfInBounds_toArray, List.set_cons_zero, List.set_cons_succ, List.getElem_toArray, List.getElem_cons_zero, List.getElem_cons_succ]
            refine wpAnyL_take (i := 7) (v := undef) rfl (by kernel_rfl) (by kernel_rfl) (by kernel_rfl) (by kernel_rfl) (by kernel_rfl) (fun _ _ _ h => h) (Or.inr ⟨by rfl, rfl⟩) (by assumption) ?_
            try simp only [Act.put, List.setIfInBounds_toArray, List.set_cons_zero, List.set_cons_succ, List.getElem_toArray, List.getElem_cons_zero, List.getElem_cons_succ]
            refine wpAnyL_take (i := 8) (v := undef) rfl (by kernel_rfl) (by kernel_rfl) (by kernel_rfl) (by kernel_rfl) (by kernel_rfl) (fun _ _ _ h => h) (Or.inr ⟨by rfl, rfl⟩) (by assumption) ?_
            try simp only [Act.put, List.setIfInBounds_toArray, List.set_cons_zero, List.set_cons_succ, List.getElem_toArray, List.getElem_cons_zero, List.getElem_cons_succ]
            refine wpAnyL_take (i := 9) (v := undef) rfl (by kernel_rfl) (by kernel_rfl) (by kernel_rfl) (by kernel_rfl) (by kernel_rfl) (fun _ _ _ h => h) (Or.inr ⟨by rfl, rfl⟩) (by assumption) ?_
            try simp only [Act.put, List.setIfInBounds_toArray, List.set_cons_zero, List.set_cons_succ, List.getElem_toArray, List.getElem_cons_zero, List.getElem_cons_succ]
            refine wpAnyL_take (i := 10) (v := undef) rfl (by kernel_rfl) (by kernel_rfl) (by kernel_rfl) (by kernel_rfl) (by kernel_rfl) (fun _ _ _ h => h) (Or.inr ⟨by rfl, rfl⟩) (by assumption) ?_
            try simp only [Act.put, List.setIfInBounds_toArray, List.set_cons_zero, List.set_cons_succ, List.getElem_toArray, List.getElem_cons_zero, List.getElem_cons_succ]
            refine wpAnyL_take (i := 11) (v := undef) rfl (by kernel_rfl) (by kernel_rfl) (by kernel_rfl) (by kernel_rfl) (by kernel_rfl) (fun _ _ _ h => h) (Or.inr ⟨by rfl, rfl⟩) (by assumption) ?_
            try simp only [Act.put, List.setIfInBounds_toArray, List.set_cons_zero, List.set_cons_succ, List.getElem_toArray, List.getElem_cons_zero, List.getElem_cons_succ]
            refine wpAnyL_take (i := 12) (v := undef) rfl (by kernel_rfl) (by kernel_rfl) (by kernel_rfl) (by kernel_rfl) (by kernel_rfl) (fun _ _ _ h => h) (Or.inr ⟨by rfl, rfl⟩) (by assumption) ?_
            try simp only [Act.put, List.setIfInBounds_toArray, List.set_cons_zero, List.set_cons_succ, List.getElem_toArray, List.getElem_cons_zero, List.getElem_cons_succ]
            refine wpAnyL_take (i := 13) (v := undef) rfl (by kernel_rfl) (by kernel_rfl) (by kernel_rfl) (by kernel_rfl) (by kernel_rfl) (fun _ _ _ h => h) (Or.inr ⟨by rfl, rfl⟩) (by assumption) ?_
            try simp only [Act.put, List.setIfInBounds_toArray, List.set_cons_zero, List.set_cons_succ, List.getElem_toArray, List.getElem_cons_zero, List.getElem_cons_succ]
            refine wpAnyL_take (i := 14) (v := .bool false) rfl (by kernel_rfl) (by kernel_rfl) (by kernel_rfl) (by kernel_rfl) (by kernel_rfl) (fun _ _ _ h => h) (Or.inl ⟨by rfl, ?_⟩) (by assumption) ?_
            · intro wq hSw; (try dsimp only at hSw); first | (go_simp; done) | (go_simp; with_reducible rfl) | with_reducible rfl
            try simp only [Act.put, List.setIfInBounds_toArray, List.set_cons_zero, List.set_cons_succ, List.getElem_toArray, List.getElem_cons_zero, List.getElem_cons_succ]
            refine wpAnyL_ready (rs := [15]) (by kernel_rfl) (by simp) ?_
            refine AllReadyL.last rfl (fun K hK => ?_)
            go_simp
            refine hK.out _ _ ?_
            clear hK K
            refine wpAnyL_done (by kernel_rfl) ?_ _
            clear hHeld
            go_simp
            go_wp2_with fail
            go_roundw
            case rel => exact ⟨j + 1, (nw + ib), per, rd, o, by omega, by omega, rfl, by go_num, by omega, by omega, HM5, HR5, HRel, by omega, by omega⟩
            case measure => simp [intOf]; omega
          · have hty := fun y (hy : MkAt w q c 7 per (some rd) y) => tick_yes w y q c 7 per (nw + ib) m rd hy HU.out (by decide) hx0 hx1 (by omega) hx2 hp1
            rw [show (1792 + 7 : Int) = 1799 from rfl] at hty
            have HTY := Lib.hid hty
            have hre := fun w => rbencode_any 7 m w (by omega) (by omega) HU.out
            rw [show (1792 + 7 : Int) = 1799 from rfl] at hre
            have HRE := Lib.hid hre
            have HQX := Lib.hid (show ∀ w, (Op.equalIn 10000 24 (.agg #[.int .i64 1799, .bool false, .int .i64 1, .int .u8 m, .int .u8 0, .int .u8 0, .int .u8 0, .int .u8 0, .int .u8 0, .int .u8 0, .int .u8 0]) (.agg #[.int .i64 1799, .bool false, .int .i64 1, .int .u8 m, .int .u8 0, .int .u8 0, .int .u8 0, .int .u8 0, .int .u8 0, .int .u8 0, .int .u8 0])).run Try.prog w = .ok true w from fun w => (run_eq_frames w 1799 1799 1 1 false false (dOf [m]) (dOf [m])).trans (by simp [eqD]))
            have HX0 := Lib.hid hx0
            have HX1x := Lib.hid hx1
            have HX2x := Lib.hid hx2
            clear hty hre hx0 hx1 hx2 HRel
            go_upto_region 17 with (first
              | (go_at_call 16; refine (HTY.out _ HM.out).mono ?_; rintro e w1 ⟨rfl, hm1, ho1⟩; have hba : Below w1.heap.size w1 (w1.alloc (.cells #[.int .i64 0, .bool false, .int .i64 0, .int .u8 0, .int .u8 0, .int .u8 0, .int .u8 0, .int .u8 0, .int .u8 0, .int .u8 0, .int .u8 0] 24)) := (Below.refl _ _).alloc (Nat.le_refl _) _; have hr1 := HR.out.othm ho1; have HM1 := Lib.hid (hm1.below hba); have HR1 := Lib.hid (hr1.below hba hr1.lt); have HX1 := Lib.hid (frame_new w1 0 0 false (fun _ => 0)); have HE1 := Lib.hid (show gr < w1.heap.size from hr1.lt); have HQ1 := Lib.hid (show w.heap.size ≤ w1.heap.size from hm1.bel.size); clear hm1 ho1 hr1 hba d0 d1 d2 d3)
              | (refine wpList_store_row rfl _ (.tmp 9) (.tmp 87) rfl w1.heap.size _ rfl rfl _ _ HX1.out info_frame rfl (one_frame 1799 1 false (dOf [m])) ?_))
            have HM2 := Lib.hid (HM1.out.frame HX1.out HQ1.out #[.int .i64 1799, .bool false, .int .i64 1, .int .u8 m, .int .u8 0, .int .u8 0, .int .u8 0, .int .u8 0, .int .u8 0, .int .u8 0, .int .u8 0])
            have HR2 := Lib.hid (HR1.out.row_of (Nat.ne_of_lt HE1.out) #[.int .i64 1799, .bool false, .int .i64 1, .int .u8 m, .int .u8 0, .int .u8 0, .int .u8 0, .int .u8 0, .int .u8 0, .int .u8 0, .int .u8 0])
            have HX2 := Lib.hid (show FrAt ((w1.alloc (.cells #[.int .i64 0, .bool false, .int .i64 0, .int .u8 0, .int .u8 0, .int .u8 0, .int .u8 0, .int .u8 0, .int .u8 0, .int .u8 0, .int .u8 0] 24)).setRow w1.heap.size #[.int .i64 1799, .bool false, .int .i64 1, .int .u8 m, .int .u8 0, .int .u8 0, .int .u8 0, .int .u8 0, .int .u8 0, .int .u8 0, .int .u8 0]) w1.heap.size 1799 false 1 (dOf [m]) from HX1.out.row 1799 1 false (dOf [m]))
            clear HM1 HR1 HX1 HTY
            generalize (w1.alloc (.cells #[.int .i64 0, .bool false, .int .i64 0, .int .u8 0, .int .u8 0, .int .u8 0, .int .u8 0, .int .u8 0, .int .u8 0, .int .u8 0, .int .u8 0] 24)).setRow w1.heap.size #[.int .i64 1799, .bool false, .int .i64 1, .int .u8 m, .int .u8 0, .int .u8 0, .int .u8 0, .int .u8 0, .int .u8 0, .int .u8 0, .int .u8 0] = w2 at *
            generalize w1.heap.size = gf at *
            obtain ⟨d0, d1, d2, d3, _, _⟩ := HD.out w2 HM2.out.bel; simp only at d0 d1 d2 d3
            go_upto_region 22 with (first
              | (go_at_call 8; refine (HRM.out _).mono ?_; rintro e w3 ⟨rfl, rfl⟩)
              | (refine wpList_load_row rfl _ (.tmp 5) rfl gr rfl _ _ _ _ HR2.out Try.underlying42 rfl info_rm ?_)
              | (go_at_call 17; refine (rtick_yes per rd (nw + ib) _ HX0.out HX1x.out (by omega) (by omega) (by omega)).mono ?_; rintro e w4 ⟨rfl, hb4⟩; have HM4 := Lib.hid (HM2.out.below hb4); have HR4 := Lib.hid (HR2.out.below hb4 HR2.out.lt); have HX4 := Lib.hid (HX2.out.below hb4 HX2.out.lt); clear hb4 d0 d1 d2 d3)
              | (refine wpList_store_row rfl _ (.tmp 5) (.tmp 101) rfl gr _ rfl rfl _ _ HR4.out info_rm rfl (one_rm _ _) ?_))
            have HM5 := Lib.hid (HM4.out.rm HR4.out HG.out #[.int .i64 per, .int .i64 (dueE rd per (nw + ib))])
            have HR5 := Lib.hid (HR4.out.row per (dueE rd per (nw + ib)))
            have HX5 := Lib.hid (HX4.out.row_other (Nat.ne_of_gt HE1.out) #[.int .i64 per, .int .i64 (dueE rd per (nw + ib))])
            clear HM4 HR4 HX4 HM2 HR2 HX2
            generalize w4.setRow gr #[.int .i64 per, .int .i64 (dueE rd per (nw + ib))] = w5 at *
            refine wp_region_last (fun x => (x.cell? ⟨gf, 0, none⟩ = some (.int .i64 1799) ∧ x.cell? ⟨gf, 1, none⟩ = some (.bool false) ∧ x.cell? ⟨gf, 2, none⟩ = some (.int .i64 1) ∧ x.cell? ⟨gf, 3, none⟩ = some (.int .u8 m) ∧ x.cell? ⟨gf, 4, none⟩ = some (.int .u8 0) ∧ x.cell? ⟨gf, 5, none⟩ = some (.int .u8 0) ∧ x.cell? ⟨gf, 6, none⟩ = some (.int .u8 0) ∧ x.cell? ⟨gf, 7, none⟩ = some (.int .u8 0) ∧ x.cell? ⟨gf, 8, none⟩ = some (.int .u8 0) ∧ x.cell? ⟨gf, 9, none⟩ = some (.int .u8 0) ∧ x.cell? ⟨gf, 10, none⟩ = some (.int .u8 0)) ∧ x.cell? ⟨bb, off + j * 4 + 3, none⟩ = some (.int .i64 m)) 15 (by kernel_rfl) ⟨HX5.out.cells, (HD.out w5 HM5.out.bel).2.2.2.1⟩ (fun hHeld => ?_)
            replace HM5 := Lib.hid HM5.out.drew
            replace HR5 : Hid (RmAt w5.drew gr per (dueE rd per (nw + ib))) := HR5
            replace HX5 : Hid (FrAt w5.drew gf 1799 false 1 (dOf [m])) := HX5
            generalize w5.drew = w5 at *
            have hqx := HQX.out
            refine wpAnyL_take (i := 0) (v := ?_) rfl (by kernel_rfl) (by kernel_rfl) (by kernel_rfl) (by kernel_rfl) (by kernel_rfl) (fun _ _ _ h => h) (Or.inl ⟨by rfl, ?_⟩) (by assumption) ?_
            rotate_left
            · intro wq hSw; (try dsimp only at hSw); first | (go_simp; done) | (go_simp; with_reducible rfl) | with_reducible rfl
            try simp only [Act.put, List.setIfInBounds_toArray, List.set_cons_zero, List.set_cons_succ, List.getElem_toArray, List.getElem_cons_zero, List.getElem_cons_succ]
            refine wpAnyL_take (i := 1) (v := ?_) rfl (by kernel_rfl) (by kernel_rfl) (by kernel_rfl) (by kernel_rfl) (by kernel_rfl) (fun _ _ _ h => h) (Or.inl ⟨by rfl, ?_⟩) (by assumption) ?_
            rotate_left
            · intro wq hSw; (try dsimp only at hSw); first | (go_simp; done) | (go_simp; with_reducible rfl) | with_reducible rfl
            try simp only [Act.put, List.setIfInBounds_toArray, List.set_cons_zero, List.set_cons_succ, List.getElem_toArray, List.getElem_cons_zero, List.getElem_cons_succ]
            refine wpAnyL_take (i := 2) (v := .bool false) rfl (by kernel_rfl) (by kernel_rfl) (by kernel_rfl) (by kernel_rfl) (by kernel_rfl) (fun _ _ _ h => h) (Or.inl ⟨by rfl, ?_⟩) (by assumption) ?_
            · intro wq hSw; (try dsimp only at hSw); first | (go_simp; done) | (go_simp; with_reducible rfl) | with_reducible rfl
            try simp only [Act.put, List.setIfInBounds_toArray, List.set_cons_zero, List.set_cons_succ, List.getElem_toArray, List.getElem_cons_zero, List.getElem_cons_succ]
            refine wpAnyL_take (i := 3) (v := .bool false) rfl (by kernel_rfl) (by kernel_rfl) (by kernel_rfl) (by kernel_rfl) (by kernel_rfl) (fun _ _ _ h => h) (Or.inl ⟨by rfl, ?_⟩) (by assumption) ?_
            · intro wq hSw; (try dsimp only at hSw); first | (go_simp; done) | (go_simp; with_reducible rfl) | with_reducible rfl
            try simp only [Act.put, List.setIfInBounds_toArray, List.set_cons_zero, List.set_cons_succ, List.getElem_toArray, List.getElem_cons_zero, List.getElem_cons_succ]
            refine wpAnyL_take (i := 4) (v := ?_) rfl (by kernel_rfl) (by kernel_rfl) (by kernel_rfl) (by kernel_rfl) (by kernel_rfl) (fun _ _ _ h => h) (Or.inl ⟨by rfl, ?_⟩) (by assumption) ?_
            rotate_left
            · intro wq hSw; (try dsimp only at hSw); first | (go_simp; done) | (go_simp; with_reducible rfl) | with_reducible rfl
            try simp only [Act.put, List.setIfInBounds_toArray, List.set_cons_zero, List.set_cons_succ, List.getElem_toArray, List.getElem_cons_zero, List.getElem_cons_succ]
            refine wpAnyL_take (i := 5) (v := ?_) rfl (by kernel_rfl) (by kernel_rfl) (by kernel_rfl) (by kernel_rfl) (by kernel_rfl) (fun _ _ _ h => h) (Or.inl ⟨by rfl, ?_⟩) (by assumption) ?_
            rotate_left
            · intro wq hSw; (try dsimp only at hSw); first | (go_simp; done) | (go_simp; with_reducible rfl) | with_reducible rfl
            try simp only [Act.put, List.setIfInBounds_toArray, List.set_cons_zero, List.set_cons_succ, List.getElem_toArray, List.getElem_cons_zero, List.getElem_cons_succ]
            refine wpAnyL_take (i := 6) (v := .agg #[.int .i64 1799, .bool false, .int .i64 1, .int .u8 m, .int .u8 0, .int .u8 0, .int .u8 0, .int .u8 0, .int .u8 0, .int .u8 0, .int .u8 0]) rfl (by kernel_rfl) (by kernel_rfl) (by kernel_rfl) (by kernel_rfl) (by kernel_rfl) (fun _ _ _ h => h) (Or.inl ⟨by rfl, ?_⟩) (by assumption) ?_
            · intro wq hSw; (try dsimp only at hSw); first | (go_simp; done) | (go_simp; with_reducible rfl) | with_reducible rfl
            try simp only [Act.put, List.setIfInBounds_toArray, List.set_cons_zero, List.set_cons_succ, List.getElem_toArray, List.getElem_cons_zero, List.getElem_cons_succ]
            refine wpAnyL_take (i := 7) (v := ?_) rfl (by kernel_rfl) (by kernel_rfl) (by kernel_rfl) (by kernel_rfl) (by kernel_rfl) (fun _ _ _ h => h) (Or.inl ⟨by rfl, ?_⟩) (by assumption) ?_
            rotate_left
            · intro wq hSw; (try dsimp only at hSw); first | (go_simp; done) | (go_simp; with_reducible rfl) | with_reducible rfl
            try simp only [Act.put, List.setIfInBounds_toArray, List.set_cons_zero, List.set_cons_succ, List.getElem_toArray, List.getElem_cons_zero, List.getElem_cons_succ]
            refine wpAnyL_take (i := 8) (v := ?_) rfl (by kernel_rfl) (by kernel_rfl) (by kernel_rfl) (by kernel_rfl) (by kernel_rfl) (fun _ _ _ h => h) (Or.inl ⟨by rfl, ?_⟩) (by assumption) ?_
            rotate_left
            · intro wq hSw; (try dsimp only at hSw); first | (go_simp; done) | (go_simp; with_reducible rfl) | with_reducible rfl
            try simp only [Act.put, List.setIfInBounds_toArray, List.set_cons_zero, List.set_cons_succ, List.getElem_toArray, List.getElem_cons_zero, List.getElem_cons_succ]
            refine wpAnyL_take (i := 9) (v := ?_) rfl (by kernel_rfl) (by kernel_rfl) (by kernel_rfl) (by kernel_rfl) (by kernel_rfl) (fun _ _ _ h => h) (Or.inl ⟨by rfl, ?_⟩) (by assumption) ?_
            rotate_left
            · intro wq hSw; (try dsimp only at hSw); first | (go_simp; done) | (go_simp; with_reducible rfl) | with_reducible rfl
            try simp only [Act.put, List.setIfInBounds_toArray, List.set_cons_zero, List.set_cons_succ, List.getElem_toArray, List.getElem_cons_zero, List.getElem_cons_succ]
            refine wpAnyL_take (i := 10) (v := ?_) rfl (by kernel_rfl) (by kernel_rfl) (by kernel_rfl) (by kernel_rfl) (by kernel_rfl) (fun _ _ _ h => h) (Or.inl ⟨by rfl, ?_⟩) (by assumption) ?_
            rotate_left
            · intro wq hSw; (try dsimp only at hSw); first | (go_simp; done) | (go_simp; with_reducible rfl) | with_reducible rfl
            try simp only [Act.put, List.setIfInBounds_toArray, List.set_cons_zero, List.set_cons_succ, List.getElem_toArray, List.getElem_cons_zero, List.getElem_cons_succ]
            refine wpAnyL_take (i := 11) (v := .int .i64 m) rfl (by kernel_rfl) (by kernel_rfl) (by kernel_rfl) (by kernel_rfl) (by kernel_rfl) (fun _ _ _ h => h) (Or.inl ⟨by rfl, ?_⟩) (by assumption) ?_
            · intro wq hSw; (try dsimp only at hSw); first | (go_simp; done) | (go_simp; with_reducible rfl) | with_reducible rfl
            try simp only [Act.put, List.setIfInBounds_toArray, List.set_cons_zero, List.set_cons_succ, List.getElem_toArray, List.getElem_cons_zero, List.getElem_cons_succ]
            refine wpAnyL_ready (rs := [12]) (by kernel_rfl) (by simp) ?_
            refine (AllReadyL.cons rfl (fun K hK => ?_) AllReadyL.nil)
            go_simp
            go_wp2_with fail
            refine (HRE.out _).mono ?_
            rintro e w6 ⟨rfl, hb6⟩
            have HM6 := Lib.hid (HM5.out.below hb6)
            have HR6 := Lib.hid (HR5.out.below hb6 HR5.out.lt)
            have HX6 := Lib.hid (HX5.out.below hb6 HX5.out.lt)
            clear hb6 HM5 HR5 HX5
            refine hK.out _ _ ?_ (fun hHeld => ?_)
            · (try dsimp only); exact ⟨HX6.out.cells, (HD.out w6 HM6.out.bel).2.2.2.1⟩
            clear hK K
            refine wpAnyL_take (i := 13) (v := .bool false) rfl (by kernel_rfl) (by kernel_rfl) (by kernel_rfl) (by kernel_rfl) (by kernel_rfl) (fun _ _ _ h => h) (Or.inl ⟨by rfl, ?_⟩) (by assumption) ?_
            · intro wq hSw; (try dsimp only at hSw); first | (go_simp; done) | (go_simp; with_reducible rfl) | with_reducible rfl
            try simp only [Act.put, List.setIfInBounds_toArray, List.set_cons_zero, List.set_cons_succ, List.getElem_toArray, List.getElem_cons_zero, List.getElem_cons_succ]
            refine wpAnyL_take (i := 14) (v := .bool false) rfl (by kernel_rfl) (by kernel_rfl) (by kernel_rfl) (by kernel_rfl) (by kernel_rfl) (fun _ _ _ h => h) (Or.inl ⟨by rfl, ?_⟩) (by assumption) ?_
            · intro wq hSw; (try dsimp only at hSw); first | (go_simp; done) | (go_simp; with_reducible rfl) | with_reducible rfl
            try simp only [Act.put, List.setIfInBounds_toArray, List.set_cons_zero, List.set_cons_succ, List.getElem_toArray, List.getElem_cons_zero, List.getElem_cons_succ]
            refine wpAnyL_ready (rs := [15]) (by kernel_rfl) (by simp) ?_
            refine AllReadyL.last rfl (fun K hK => ?_)
            go_simp
            refine hK.out _ _ ?_
            clear hK K
            refine wpAnyL_done (by kernel_rfl) ?_ _
            clear hHeld
            go_simp
            go_wp2_with fail
            go_roundw
            case rel => exact ⟨j + 1, (nw + ib), per, (dueE rd per (nw + ib)), (oDue rd per (nw + ib)), by omega, by omega, rfl, by go_num, by omega, by omega, HM6, HR6, Lib.hid (rel_due HX0.out HX1x.out HX2x.out), by omega, by omega⟩
            case measure => simp [intOf]; omega
        · have HU := Lib.hid (show isMd m = false by simpa using hu)
          rw [HU.out] at HRM
          clear hu
          go_upto_region 17 with (first
            | (go_at_call 16; refine (tick_mode _ q (nw + ib) m HU.out).mono ?_; rintro e w1 ⟨rfl, hb1⟩; have hba : Below w1.heap.size w1 (w1.alloc (.cells #[.int .i64 0, .bool false, .int .i64 0, .int .u8 0, .int .u8 0, .int .u8 0, .int .u8 0, .int .u8 0, .int .u8 0, .int .u8 0, .int .u8 0] 24)) := (Below.refl _ _).alloc (Nat.le_refl _) _; have HM1 := Lib.hid ((HM.out.below hb1).below hba); have HR1 := Lib.hid ((HR.out.below hb1 HR.out.lt).below hba (HR.out.below hb1 HR.out.lt).lt); have HX1 := Lib.hid (frame_new w1 0 0 false (fun _ => 0)); have HE1 := Lib.hid (show gr < w1.heap.size from (HR.out.below hb1 HR.out.lt).lt); have HQ1 := Lib.hid (show w.heap.size ≤ w1.heap.size from (HM.out.below hb1).bel.size); clear hb1 hba d0 d1 d2 d3)
            | (refine wpList_store_row rfl _ (.tmp 9) (.tmp 87) rfl w1.heap.size _ rfl rfl _ _ HX1.out info_frame rfl (one_frame 0 0 false (fun _ => 0)) ?_))
          have HM2 := Lib.hid (HM1.out.frame HX1.out HQ1.out #[.int .i64 0, .bool false, .int .i64 0, .int .u8 0, .int .u8 0, .int .u8 0, .int .u8 0, .int .u8 0, .int .u8 0, .int .u8 0, .int .u8 0])
          have HR2 := Lib.hid (HR1.out.row_of (Nat.ne_of_lt HE1.out) #[.int .i64 0, .bool false, .int .i64 0, .int .u8 0, .int .u8 0, .int .u8 0, .int .u8 0, .int .u8 0, .int .u8 0, .int .u8 0, .int .u8 0])
          clear HM1 HR1 HX1
          generalize (w1.alloc (.cells #[.int .i64 0, .bool false, .int .i64 0, .int .u8 0, .int .u8 0, .int .u8 0, .int .u8 0, .int .u8 0, .int .u8 0, .int .u8 0, .int .u8 0] 24)).setRow w1.heap.size #[.int .i64 0, .bool false, .int .i64 0, .int .u8 0, .int .u8 0, .int .u8 0, .int .u8 0, .int .u8 0, .int .u8 0, .int .u8 0, .int .u8 0] = w2 at *
          obtain ⟨d0, d1, d2, d3, _, _⟩ := HD.out w2 HM2.out.bel; simp only at d0 d1 d2 d3
          go_wp2_with (go_at_call 8; refine (HRM.out _).mono ?_; rintro e w3 ⟨rfl, rfl⟩)
          go_roundw
          case rel => exact ⟨j + 1, (nw + ib), per, rd, o, by omega, by omega, rfl, by go_num, by omega, by omega, HM2, HR2, HRel, by omega, by omega⟩
          case measure => simp [intOf]; omega
    · have hge : ¬ (j : Int) < (N : Int) ∨ ((j : Int) < (N : Int) ∧ ¬ (j : Int) < 60) := by omega
      have HE := Lib.hid (fun (P : Prop) (hA : ¬ (j : Int) < (N : Int) → P) (hB : (j : Int) < (N : Int) ∧ ¬ (j : Int) < 60 → P) => hge.elim hA hB)
      have HB := Lib.hid HM.out.bel
      clear hlt hge HL HR HRel
      refine HE.out _ (fun h1 => ?_) (fun h1 => ?_)
      all_goals
        clear HE
        try obtain ⟨h1, h2⟩ := h1
        go_wp2_with (first
          | (go_at_call 16; refine (tick_nil _ 1 127).mono ?_; rintro e w3 ⟨rfl, hb3⟩; have hba : Below w3.heap.size w3 (w3.alloc (.cells #[.int .i64 0, .bool false, .int .i64 0, .int .u8 0, .int .u8 0, .int .u8 0, .int .u8 0, .int .u8 0, .int .u8 0, .int .u8 0, .int .u8 0] 24)) := (Below.refl _ _).alloc (Nat.le_refl _) _; have HB3 := Lib.hid ((HB.out.trans (hb3.mono HB.out.size)).trans (hba.mono (Nat.le_trans HB.out.size hb3.size))); have HX3 := Lib.hid (frame_new w3 0 0 false (fun _ => 0)); have HG3 := Lib.hid (Nat.le_trans HB.out.size hb3.size); clear hb3 hba)
          | (refine wpList_store_row rfl _ (.tmp 13) (.tmp 122) rfl w3.heap.size _ rfl rfl _ _ HX3.out info_frame rfl (one_frame 0 0 false (fun _ => 0)) ?_; have HB4 := Lib.hid (below_setRow HB3.out HG3.out #[.int .i64 0, .bool false, .int .i64 0, .int .u8 0, .int .u8 0, .int .u8 0, .int .u8 0, .int .u8 0, .int .u8 0, .int .u8 0, .int .u8 0]); clear HX3 HB3; generalize (w3.alloc (.cells #[.int .i64 0, .bool false, .int .i64 0, .int .u8 0, .int .u8 0, .int .u8 0, .int .u8 0, .int .u8 0, .int .u8 0, .int .u8 0, .int .u8 0] 24)).setRow w3.heap.size #[.int .i64 0, .bool false, .int .i64 0, .int .u8 0, .int .u8 0, .int .u8 0, .int .u8 0, .int .u8 0, .int .u8 0, .int .u8 0, .int .u8 0] = w4 at *)
          | (go_at_call 13; refine (HNO.out _).mono ?_; rintro e w5 ⟨rfl, rfl⟩)
          | (go_at_call 12; refine (live22_any _).mono ?_; rintro e w6 ⟨rfl, hb6⟩)
          | (go_at_call 14; refine (mset_nil _ _ _).mono ?_; rintro e w7 ⟨rfl, rfl⟩))
        go_ret
        exact ⟨rfl, HB4.out.trans (hb6.mono HB4.out.size)⟩
end Go.Proofs.Ytiidgcgamcgipaa
