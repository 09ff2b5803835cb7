/- SdomsgBack's walk. -/
import Derived.Test.YtbbkobfibobfcaaKv
import Derived.Test.YtbbkobfibobfcaaKs
import Derived.Test.YtbbkobfibobfcaaKr
import Derived.Deep.CutBlock
namespace Go.Proofs.Ytbbkobfibobfcaa
open Go.RowKit
set_option linter.unusedSimpArgs false
set_option linter.unusedVariables false
set_option maxHeartbeats 4000000

theorem eqL_refl (l : List Int) : eqL l l = true := by simp [eqL]
theorem eqM_refl (m : Ms) : eqM m m = true := eqM_iff.2 rfl
theorem enc_ok {m : Ms} (h : (encM m).2 = 0) : (1 ≤ m.c ∧ m.c ≤ 17) ∧ canM m = true ∧ (encM m).1 = (stM m).2 ∧ getM m.c (stM m).2 = m := by
  unfold encM at h ⊢
  by_cases h1 : m.c < 1 ∨ 17 < m.c
  · rw [if_pos h1] at h; simp at h
  rw [if_neg h1] at h ⊢
  by_cases h2 : (putM m).2 = false
  · rw [if_pos h2] at h; simp at h
  rw [if_neg h2] at h ⊢
  by_cases h3 : eqM (getM m.c (putM m).1) m = true
  · rw [if_pos h3] at h ⊢
    have hk : canM m = true := by
      unfold putM at h2
      by_cases hk : canM m = true
      · exact hk
      · rw [if_neg hk] at h2; simp at h2
    have hp : (putM m).1 = (stM m).2 := by unfold putM; rw [if_pos hk]
    rw [hp] at h3 ⊢
    exact ⟨by omega, hk, rfl, eqM_iff.1 h3⟩
  · rw [if_neg h3] at h; simp at h
theorem dec_enc {m : Ms} (h : (encM m).2 = 0) {ans : Bool} (ha : askB ans m.c = true) : decM (encM m).1 ans = (m, 0) := by
  obtain ⟨hc, hk, hL, hg⟩ := enc_ok h
  have hh := stM_head hk hc
  have hcmd := cmd_head hk hc ha
  have e : getM (cmdE ((stM m).2.getD 0 0) ans) (stM m).2 = m := by rw [hh, hcmd, hg]
  rw [hL]
  unfold decM
  rw [e, if_pos ⟨h, by rw [hL]; exact eqL_refl _⟩]
theorem dec_ok {l : List Int} {ans : Bool} (h : (decM l ans).2 = 0) : (encM (decM l ans).1).2 = 0 ∧ eqL (encM (decM l ans).1).1 l = true := by
  unfold decM at h ⊢
  by_cases h1 : (encM (getM (cmdE (l.getD 0 0) ans) l)).2 = 0 ∧ eqL (encM (getM (cmdE (l.getD 0 0) ans) l)).1 l = true
  · rw [if_pos h1]; exact h1
  · rw [if_neg h1] at h; simp at h
theorem dec_no {l : List Int} {ans : Bool} (h : ¬ (decM l ans).2 = 0) : (decM l ans).1 = zM := by
  unfold decM at h ⊢
  by_cases h1 : (encM (getM (cmdE (l.getD 0 0) ans) l)).2 = 0 ∧ eqL (encM (getM (cmdE (l.getD 0 0) ans) l)).1 l = true
  · rw [if_pos h1] at h; simp at h
  · rw [if_neg h1]
theorem dec_B {l : List Int} (hl : Byte8 l) (ans : Bool) : MsB (decM l ans).1 := by
  unfold decM
  split
  · exact getM_B hl _
  · intro x hx
    simp [zM, Ms.d, dL] at hx
    omega
theorem enc_bytes {m : Ms} (hd : MsB m) (h : (encM m).2 = 0) : Byte8 (encM m).1 := by
  rw [(enc_ok h).2.2.1]
  exact byte8_of (stM_range hd)
set_option maxRecDepth 8000 in
theorem back_walk (m : Ms) (l : List Int) (ans : Bool) (w : World) (hd : MsB m) (hl : Byte8 l) :
    Calls Try.prog 5 #[.agg (mAr m), .agg (lnA l), .bool ans] w fun e w' => e = .returned (.bool true) ∧ Below w.heap.size w w' := by
  have hm0 : ((w.alloc (.cells (mAr m) 28)).alloc (.cells (lnA l) 30)).heap[w.heap.size]? = some (.cells (mAr m) 28 (0, 0)) := (heap_alloc_old _ _ (by simp)).trans (heap_alloc_new w _)
  have hl0 : LnAt ((w.alloc (.cells (mAr m) 28)).alloc (.cells (lnA l) 30)) (w.heap.size + 1) l := by
    have := heap_alloc_new (w.alloc (.cells (mAr m) 28)) (.cells (lnA l) 30)
    rw [show (w.alloc (.cells (mAr m) 28)).heap.size = w.heap.size + 1 by simp] at this
    exact this
  have hb0 : Below w.heap.size w ((w.alloc (.cells (mAr m) 28)).alloc (.cells (lnA l) 30)) := ((Below.refl _ _).alloc (Nat.le_refl _) _).alloc (by simp) _
  have hs0 : ((w.alloc (.cells (mAr m) 28)).alloc (.cells (lnA l) 30)).heap.size = w.heap.size + 2 := by simp
  have hen := fun w => encode_any m hd w
  have hde : (encM m).2 = 0 → ∀ a : Bool, askB a m.c = true → ∀ w : World, Calls Try.prog 10 #[.agg (lnA (encM m).1), .bool a] w fun e w' => e = .returned (.tuple #[.agg (mAr m), .int .i64 0]) ∧ Below w.heap.size w w' := by
    intro h0 a ha w
    have := decode_any (encM m).1 a (enc_bytes hd h0) w
    rw [dec_enc h0 ha] at this
    exact this
  have hdl := fun w => decode_any l ans hl w
  have hdb := dec_B hl ans
  have hdo := fun h => dec_ok (l := l) (ans := ans) h
  have hdn := fun h => dec_no (l := l) (ans := ans) h
  generalize decM l ans = D at hdl hdb hdo hdn
  obtain ⟨D1, df⟩ := D
  simp only at hdl hdb hdo hdn
  have hee := fun w => encode_any D1 hdb w
  generalize encM D1 = E at hdo hee
  obtain ⟨d, g⟩ := E
  simp only at hdo
  have hcd := fun w => run_eqL d l w
  have hcm := fun w => run_eqM m m w
  rw [eqM_refl] at hcm
  have hcz : ∀ w : World, (Op.equalIn 10000 28 (.agg (mAr zM)) (.agg #[.int .i64 0, .int .i64 0, .int .i64 0, .bool false, .bool false, .bool false, .bool false, .int .i64 0, .int .i64 0, .int .u8 0, .int .u8 0, .int .u8 0, .int .u8 0, .int .u8 0, .int .u8 0, .int .u8 0, .int .i64 0, .int .i64 0, .int .i64 0, .int .i64 0, .int .i64 0])).run Try.prog w = .ok true w := fun w => by
    have := run_eqM zM zM w
    rw [eqM_refl] at this
    exact this
  generalize encM m = E at hen hde
  obtain ⟨L, er⟩ := E
  simp only at hen hde
  have k0 : ∀ w' : World, w'.heap[w.heap.size]? = some (.cells (mAr m) 28 (0, 0)) → w'.cell? ⟨w.heap.size, 0, none⟩ = some (.int .i64 m.c) := fun w' h => by rw [cell_of_row _ _ _ _ _ _ h]; rfl
  have hqa := fun w => asked_any m.c w
  have hqb := fun w => answered_any m.c w
  obtain ⟨cc, hcc⟩ : ∃ cc, m.c = cc := ⟨_, rfl⟩
  rw [hcc] at k0 hqa hqb hde
  obtain ⟨qa, hqa2⟩ : ∃ q, decide ((1 ≤ cc ∧ cc ≤ 7) ∨ 14 ≤ cc) = q := ⟨_, rfl⟩
  obtain ⟨qb, hqb2⟩ : ∃ q, decide (8 ≤ cc ∧ cc ≤ 17) = q := ⟨_, rfl⟩
  have ha1 : askB false cc = qa := by rw [← hqa2]; rfl
  have ha2 : askB true cc = qb := by rw [← hqb2]; rfl
  rw [hqa2] at hqa
  rw [hqb2] at hqb
  have hd0 := fun (h : er = 0) (h2 : qa = true) => hde h false (ha1.trans h2)
  have hd1 := fun (h : er = 0) (h2 : qb = true) => hde h true (ha2.trans h2)
  clear hde ha1 ha2 hqa2 hqb2 hcc
  have HM0 := Lib.hid hm0
  have HL0 := Lib.hid hl0
  have HB0 := Lib.hid hb0
  have HS0 := Lib.hid hs0
  have HEN := Lib.hid hen
  have HD0 := Lib.hid hd0
  have HD1 := Lib.hid hd1
  have HDL := Lib.hid hdl
  have HDO := Lib.hid hdo
  have HDN := Lib.hid hdn
  have HEE := Lib.hid hee
  have HCD := Lib.hid hcd
  have HCM := Lib.hid hcm
  have HCZ := Lib.hid hcz
  have HK0 := Lib.hid k0
  have HQA := Lib.hid hqa
  have HQB := Lib.hid hqb
  clear hm0 hl0 hb0 hs0 hen hd0 hd1 hdl hdo hdn hee hcd hcm hcz k0 hqa hqb hd hl hdb
  go_enter Try.func5, Try.ntmps5
  go_wp2_with (refine wpList_load_row rfl 28 (.tmp 3) rfl w.heap.size rfl _ _ _ _ HM0.out Try.underlying28 rfl info_msg ?_)
  refine (HEN.out _).mono ?_
  rintro e w1 ⟨rfl, hb1⟩
  have HZ1 := Lib.hid (ln_zero w1)
  have HM1 := Lib.hid ((setRow_other (w1.alloc (.cells #[.int .u8 0, .int .u8 0, .int .u8 0, .int .u8 0, .int .u8 0, .int .u8 0, .int .u8 0, .int .u8 0] 30)) w1.heap.size w.heap.size (lnA L) (by have := hb1.size; rw [HS0.out] at this; omega)).trans ((heap_alloc_old w1 _ (by have := hb1.size; rw [HS0.out] at this; omega)).trans ((hb1.block w.heap.size (by rw [HS0.out]; omega)).trans HM0.out)))
  have HL1 := Lib.hid (show LnAt (_root_.Go.World.setRow (w1.alloc (.cells #[.int .u8 0, .int .u8 0, .int .u8 0, .int .u8 0, .int .u8 0, .int .u8 0, .int .u8 0, .int .u8 0] 30)) w1.heap.size (lnA L)) (w.heap.size + 1) l from (setRow_other (w1.alloc (.cells #[.int .u8 0, .int .u8 0, .int .u8 0, .int .u8 0, .int .u8 0, .int .u8 0, .int .u8 0, .int .u8 0] 30)) w1.heap.size (w.heap.size + 1) (lnA L) (by have := hb1.size; rw [HS0.out] at this; omega)).trans ((heap_alloc_old w1 _ (by have := hb1.size; rw [HS0.out] at this; omega)).trans ((hb1.block (w.heap.size + 1) (by rw [HS0.out]; omega)).trans HL0.out)))
  have HN1 := Lib.hid (show LnAt (_root_.Go.World.setRow (w1.alloc (.cells #[.int .u8 0, .int .u8 0, .int .u8 0, .int .u8 0, .int .u8 0, .int .u8 0, .int .u8 0, .int .u8 0] 30)) w1.heap.size (lnA L)) w1.heap.size L from setRow_heap _ _ _ (lnA L) _ _ HZ1.out)
  have HB1 := Lib.hid (below_setRow ((HB0.out.trans (hb1.mono HB0.out.size)).alloc (Nat.le_trans HB0.out.size hb1.size) (.cells #[.int .u8 0, .int .u8 0, .int .u8 0, .int .u8 0, .int .u8 0, .int .u8 0, .int .u8 0, .int .u8 0] 30)) (show w.heap.size ≤ w1.heap.size from Nat.le_trans HB0.out.size hb1.size) (lnA L))
  have HG1 : Hid (w.heap.size + 2 ≤ w1.heap.size) := by have := hb1.size; rw [HS0.out] at this; exact this
  clear hb1 HM0 HL0 HB0 HS0
  go_upto_if 23 with (refine wpList_store_row rfl 30 (.tmp 7) (.tmp 20) rfl w1.heap.size (lnA L) rfl rfl _ _ HZ1.out info_line rfl (ln_one _) ?_)
  generalize (_root_.Go.World.setRow (w1.alloc (.cells #[.int .u8 0, .int .u8 0, .int .u8 0, .int .u8 0, .int .u8 0, .int .u8 0, .int .u8 0, .int .u8 0] 30)) w1.heap.size (lnA L)) = wa at *
  go_cut [] from 9 to 53 (fun wx => Hid (wx.heap[w.heap.size]? = some (.cells (mAr m) 28 (0, 0))) ∧ Hid (LnAt wx (w.heap.size + 1) l) ∧ Hid (Below w.heap.size w wx))
  case first =>
    by_cases her : er = 0
    case neg =>
      go_wp2_with fail
      all_goals first
        | (exfalso; simp_all; done)
        | (go_meet; exact ⟨HM1, HL1, HB1⟩)
    subst her
    cases qa <;> cases qb
    · have hcm := HCM.out
      have k0 := HK0.out wa HM1.out
      go_wp2_with (first
        | (go_at_call 12; refine (HQA.out _).mono ?_; rintro e wq ⟨rfl, rfl⟩)
        | (go_at_call 13; refine (HQB.out _).mono ?_; rintro e wq2 ⟨rfl, rfl⟩))
      go_meet
      exact ⟨HM1, HL1, HB1⟩
    · have hcm := HCM.out
      have k0 := HK0.out wa HM1.out
      go_wp2_with (first
        | (go_at_call 12; refine (HQA.out _).mono ?_; rintro e wq ⟨rfl, rfl⟩)
        | (go_at_call 13; refine (HQB.out _).mono ?_; rintro e wq2 ⟨rfl, rfl⟩)
        | (refine wpList_load_row rfl 30 (.tmp 7) rfl w1.heap.size rfl _ _ _ _ HN1.out Try.underlying30 rfl info_line ?_))
      refine (HD1.out (by first | rfl | trivial) (by first | rfl | trivial) _).mono ?_
      rintro e w3 ⟨rfl, hb3⟩
      have hz3 : Hid ((w3.alloc (.cells #[.int .i64 0, .int .i64 0, .int .i64 0, .bool false, .bool false, .bool false, .bool false, .int .i64 0, .int .i64 0, .int .u8 0, .int .u8 0, .int .u8 0, .int .u8 0, .int .u8 0, .int .u8 0, .int .u8 0, .int .i64 0, .int .i64 0, .int .i64 0, .int .i64 0, .int .i64 0] 28)).heap[w3.heap.size]? = some (.cells (mAr zM) 28 (0, 0))) := heap_alloc_new w3 (.cells #[.int .i64 0, .int .i64 0, .int .i64 0, .bool false, .bool false, .bool false, .bool false, .int .i64 0, .int .i64 0, .int .u8 0, .int .u8 0, .int .u8 0, .int .u8 0, .int .u8 0, .int .u8 0, .int .u8 0, .int .i64 0, .int .i64 0, .int .i64 0, .int .i64 0, .int .i64 0] 28)
      have sz3 := hb3.size
      have ltM3 := (Array.getElem?_eq_some_iff.1 HM1.out).1
      have HM3 : Hid ((_root_.Go.World.setRow (w3.alloc (.cells #[.int .i64 0, .int .i64 0, .int .i64 0, .bool false, .bool false, .bool false, .bool false, .int .i64 0, .int .i64 0, .int .u8 0, .int .u8 0, .int .u8 0, .int .u8 0, .int .u8 0, .int .u8 0, .int .u8 0, .int .i64 0, .int .i64 0, .int .i64 0, .int .i64 0, .int .i64 0] 28)) w3.heap.size (mAr m)).heap[w.heap.size]? = some (.cells (mAr m) 28 (0, 0))) := (setRow_other _ w3.heap.size w.heap.size (mAr m) (by omega)).trans ((heap_alloc_old w3 _ (by omega)).trans ((hb3.block w.heap.size ltM3).trans HM1.out))
      have ltL3 := (Array.getElem?_eq_some_iff.1 HL1.out).1
      have HL3 : Hid (LnAt (_root_.Go.World.setRow (w3.alloc (.cells #[.int .i64 0, .int .i64 0, .int .i64 0, .bool false, .bool false, .bool false, .bool false, .int .i64 0, .int .i64 0, .int .u8 0, .int .u8 0, .int .u8 0, .int .u8 0, .int .u8 0, .int .u8 0, .int .u8 0, .int .i64 0, .int .i64 0, .int .i64 0, .int .i64 0, .int .i64 0] 28)) w3.heap.size (mAr m)) (w.heap.size + 1) l) := (setRow_other _ w3.heap.size (w.heap.size + 1) (mAr m) (by omega)).trans ((heap_alloc_old w3 _ (by omega)).trans ((hb3.block (w.heap.size + 1) ltL3).trans HL1.out))
      have ltN3 := (Array.getElem?_eq_some_iff.1 HN1.out).1
      have HN3 : Hid (LnAt (_root_.Go.World.setRow (w3.alloc (.cells #[.int .i64 0, .int .i64 0, .int .i64 0, .bool false, .bool false, .bool false, .bool false, .int .i64 0, .int .i64 0, .int .u8 0, .int .u8 0, .int .u8 0, .int .u8 0, .int .u8 0, .int .u8 0, .int .u8 0, .int .i64 0, .int .i64 0, .int .i64 0, .int .i64 0, .int .i64 0] 28)) w3.heap.size (mAr m)) w1.heap.size L) := (setRow_other _ w3.heap.size w1.heap.size (mAr m) (by omega)).trans ((heap_alloc_old w3 _ (by omega)).trans ((hb3.block w1.heap.size ltN3).trans HN1.out))
      have HQ3 : Hid ((_root_.Go.World.setRow (w3.alloc (.cells #[.int .i64 0, .int .i64 0, .int .i64 0, .bool false, .bool false, .bool false, .bool false, .int .i64 0, .int .i64 0, .int .u8 0, .int .u8 0, .int .u8 0, .int .u8 0, .int .u8 0, .int .u8 0, .int .u8 0, .int .i64 0, .int .i64 0, .int .i64 0, .int .i64 0, .int .i64 0] 28)) w3.heap.size (mAr m)).heap[w3.heap.size]? = some (.cells (mAr m) 28 (0, 0))) := setRow_heap _ w3.heap.size _ (mAr m) _ _ hz3.out
      have HB3 := Lib.hid (below_setRow ((HB1.out.trans (hb3.mono HB1.out.size)).alloc (Nat.le_trans HB1.out.size hb3.size) (.cells #[.int .i64 0, .int .i64 0, .int .i64 0, .bool false, .bool false, .bool false, .bool false, .int .i64 0, .int .i64 0, .int .u8 0, .int .u8 0, .int .u8 0, .int .u8 0, .int .u8 0, .int .u8 0, .int .u8 0, .int .i64 0, .int .i64 0, .int .i64 0, .int .i64 0, .int .i64 0] 28)) (show w.heap.size ≤ w3.heap.size from Nat.le_trans HB1.out.size hb3.size) (mAr m))
      go_wp2_with (first
        | (refine wpList_store_row rfl 28 (.tmp 11) (.tmp 45) rfl w3.heap.size (mAr m) rfl rfl _ _ hz3.out info_msg rfl (mAr_one _) ?_)
        | (refine wpList_step (fun K hK => Eq.mpr (if_pos (by kernel_rfl)) (wp_load_row 28 (.tmp 11) rfl w3.heap.size rfl _ _ _ _ HQ3.out Try.underlying28 rfl info_msg (hK _ _ ?_))))
        | (refine wpList_step (fun K hK => Eq.mpr (if_pos (by kernel_rfl)) (wp_load_row 28 (.tmp 3) rfl w.heap.size rfl _ _ _ _ HM3.out Try.underlying28 rfl info_msg (hK _ _ ?_)))))
      go_meet
      exact ⟨HM3, HL3, HB3⟩
    · have hcm := HCM.out
      have k0 := HK0.out wa HM1.out
      go_wp2_with (first
        | (go_at_call 12; refine (HQA.out _).mono ?_; rintro e wq ⟨rfl, rfl⟩)
        | (refine wpList_load_row rfl 30 (.tmp 7) rfl w1.heap.size rfl _ _ _ _ HN1.out Try.underlying30 rfl info_line ?_))
      refine (HD0.out (by first | rfl | trivial) (by first | rfl | trivial) _).mono ?_
      rintro e w2 ⟨rfl, hb2⟩
      have hz2 : Hid ((w2.alloc (.cells #[.int .i64 0, .int .i64 0, .int .i64 0, .bool false, .bool false, .bool false, .bool false, .int .i64 0, .int .i64 0, .int .u8 0, .int .u8 0, .int .u8 0, .int .u8 0, .int .u8 0, .int .u8 0, .int .u8 0, .int .i64 0, .int .i64 0, .int .i64 0, .int .i64 0, .int .i64 0] 28)).heap[w2.heap.size]? = some (.cells (mAr zM) 28 (0, 0))) := heap_alloc_new w2 (.cells #[.int .i64 0, .int .i64 0, .int .i64 0, .bool false, .bool false, .bool false, .bool false, .int .i64 0, .int .i64 0, .int .u8 0, .int .u8 0, .int .u8 0, .int .u8 0, .int .u8 0, .int .u8 0, .int .u8 0, .int .i64 0, .int .i64 0, .int .i64 0, .int .i64 0, .int .i64 0] 28)
      have sz2 := hb2.size
      have ltM2 := (Array.getElem?_eq_some_iff.1 HM1.out).1
      have HM2 : Hid ((_root_.Go.World.setRow (w2.alloc (.cells #[.int .i64 0, .int .i64 0, .int .i64 0, .bool false, .bool false, .bool false, .bool false, .int .i64 0, .int .i64 0, .int .u8 0, .int .u8 0, .int .u8 0, .int .u8 0, .int .u8 0, .int .u8 0, .int .u8 0, .int .i64 0, .int .i64 0, .int .i64 0, .int .i64 0, .int .i64 0] 28)) w2.heap.size (mAr m)).heap[w.heap.size]? = some (.cells (mAr m) 28 (0, 0))) := (setRow_other _ w2.heap.size w.heap.size (mAr m) (by omega)).trans ((heap_alloc_old w2 _ (by omega)).trans ((hb2.block w.heap.size ltM2).trans HM1.out))
      have ltL2 := (Array.getElem?_eq_some_iff.1 HL1.out).1
      have HL2 : Hid (LnAt (_root_.Go.World.setRow (w2.alloc (.cells #[.int .i64 0, .int .i64 0, .int .i64 0, .bool false, .bool false, .bool false, .bool false, .int .i64 0, .int .i64 0, .int .u8 0, .int .u8 0, .int .u8 0, .int .u8 0, .int .u8 0, .int .u8 0, .int .u8 0, .int .i64 0, .int .i64 0, .int .i64 0, .int .i64 0, .int .i64 0] 28)) w2.heap.size (mAr m)) (w.heap.size + 1) l) := (setRow_other _ w2.heap.size (w.heap.size + 1) (mAr m) (by omega)).trans ((heap_alloc_old w2 _ (by omega)).trans ((hb2.block (w.heap.size + 1) ltL2).trans HL1.out))
      have ltN2 := (Array.getElem?_eq_some_iff.1 HN1.out).1
      have HN2 : Hid (LnAt (_root_.Go.World.setRow (w2.alloc (.cells #[.int .i64 0, .int .i64 0, .int .i64 0, .bool false, .bool false, .bool false, .bool false, .int .i64 0, .int .i64 0, .int .u8 0, .int .u8 0, .int .u8 0, .int .u8 0, .int .u8 0, .int .u8 0, .int .u8 0, .int .i64 0, .int .i64 0, .int .i64 0, .int .i64 0, .int .i64 0] 28)) w2.heap.size (mAr m)) w1.heap.size L) := (setRow_other _ w2.heap.size w1.heap.size (mAr m) (by omega)).trans ((heap_alloc_old w2 _ (by omega)).trans ((hb2.block w1.heap.size ltN2).trans HN1.out))
      have HQ2 : Hid ((_root_.Go.World.setRow (w2.alloc (.cells #[.int .i64 0, .int .i64 0, .int .i64 0, .bool false, .bool false, .bool false, .bool false, .int .i64 0, .int .i64 0, .int .u8 0, .int .u8 0, .int .u8 0, .int .u8 0, .int .u8 0, .int .u8 0, .int .u8 0, .int .i64 0, .int .i64 0, .int .i64 0, .int .i64 0, .int .i64 0] 28)) w2.heap.size (mAr m)).heap[w2.heap.size]? = some (.cells (mAr m) 28 (0, 0))) := setRow_heap _ w2.heap.size _ (mAr m) _ _ hz2.out
      have HB2 := Lib.hid (below_setRow ((HB1.out.trans (hb2.mono HB1.out.size)).alloc (Nat.le_trans HB1.out.size hb2.size) (.cells #[.int .i64 0, .int .i64 0, .int .i64 0, .bool false, .bool false, .bool false, .bool false, .int .i64 0, .int .i64 0, .int .u8 0, .int .u8 0, .int .u8 0, .int .u8 0, .int .u8 0, .int .u8 0, .int .u8 0, .int .i64 0, .int .i64 0, .int .i64 0, .int .i64 0, .int .i64 0] 28)) (show w.heap.size ≤ w2.heap.size from Nat.le_trans HB1.out.size hb2.size) (mAr m))
      have k2 := HK0.out _ HM2.out
      go_wp2_with (first
        | (refine wpList_store_row rfl 28 (.tmp 9) (.tmp 30) rfl w2.heap.size (mAr m) rfl rfl _ _ hz2.out info_msg rfl (mAr_one _) ?_)
        | (refine wpList_step (fun K hK => Eq.mpr (if_pos (by kernel_rfl)) (wp_load_row 28 (.tmp 9) rfl w2.heap.size rfl _ _ _ _ HQ2.out Try.underlying28 rfl info_msg (hK _ _ ?_))))
        | (refine wpList_step (fun K hK => Eq.mpr (if_pos (by kernel_rfl)) (wp_load_row 28 (.tmp 3) rfl w.heap.size rfl _ _ _ _ HM2.out Try.underlying28 rfl info_msg (hK _ _ ?_))))
        | (go_at_call 13; refine (HQB.out _).mono ?_; rintro e wq2 ⟨rfl, rfl⟩))
      go_meet
      exact ⟨HM2, HL2, HB2⟩
    · have hcm := HCM.out
      have k0 := HK0.out wa HM1.out
      go_wp2_with (first
        | (go_at_call 12; refine (HQA.out _).mono ?_; rintro e wq ⟨rfl, rfl⟩)
        | (refine wpList_load_row rfl 30 (.tmp 7) rfl w1.heap.size rfl _ _ _ _ HN1.out Try.underlying30 rfl info_line ?_))
      refine (HD0.out (by first | rfl | trivial) (by first | rfl | trivial) _).mono ?_
      rintro e w2 ⟨rfl, hb2⟩
      have hz2 : Hid ((w2.alloc (.cells #[.int .i64 0, .int .i64 0, .int .i64 0, .bool false, .bool false, .bool false, .bool false, .int .i64 0, .int .i64 0, .int .u8 0, .int .u8 0, .int .u8 0, .int .u8 0, .int .u8 0, .int .u8 0, .int .u8 0, .int .i64 0, .int .i64 0, .int .i64 0, .int .i64 0, .int .i64 0] 28)).heap[w2.heap.size]? = some (.cells (mAr zM) 28 (0, 0))) := heap_alloc_new w2 (.cells #[.int .i64 0, .int .i64 0, .int .i64 0, .bool false, .bool false, .bool false, .bool false, .int .i64 0, .int .i64 0, .int .u8 0, .int .u8 0, .int .u8 0, .int .u8 0, .int .u8 0, .int .u8 0, .int .u8 0, .int .i64 0, .int .i64 0, .int .i64 0, .int .i64 0, .int .i64 0] 28)
      have sz2 := hb2.size
      have ltM2 := (Array.getElem?_eq_some_iff.1 HM1.out).1
      have HM2 : Hid ((_root_.Go.World.setRow (w2.alloc (.cells #[.int .i64 0, .int .i64 0, .int .i64 0, .bool false, .bool false, .bool false, .bool false, .int .i64 0, .int .i64 0, .int .u8 0, .int .u8 0, .int .u8 0, .int .u8 0, .int .u8 0, .int .u8 0, .int .u8 0, .int .i64 0, .int .i64 0, .int .i64 0, .int .i64 0, .int .i64 0] 28)) w2.heap.size (mAr m)).heap[w.heap.size]? = some (.cells (mAr m) 28 (0, 0))) := (setRow_other _ w2.heap.size w.heap.size (mAr m) (by omega)).trans ((heap_alloc_old w2 _ (by omega)).trans ((hb2.block w.heap.size ltM2).trans HM1.out))
      have ltL2 := (Array.getElem?_eq_some_iff.1 HL1.out).1
      have HL2 : Hid (LnAt (_root_.Go.World.setRow (w2.alloc (.cells #[.int .i64 0, .int .i64 0, .int .i64 0, .bool false, .bool false, .bool false, .bool false, .int .i64 0, .int .i64 0, .int .u8 0, .int .u8 0, .int .u8 0, .int .u8 0, .int .u8 0, .int .u8 0, .int .u8 0, .int .i64 0, .int .i64 0, .int .i64 0, .int .i64 0, .int .i64 0] 28)) w2.heap.size (mAr m)) (w.heap.size + 1) l) := (setRow_other _ w2.heap.size (w.heap.size + 1) (mAr m) (by omega)).trans ((heap_alloc_old w2 _ (by omega)).trans ((hb2.block (w.heap.size + 1) ltL2).trans HL1.out))
      have ltN2 := (Array.getElem?_eq_some_iff.1 HN1.out).1
      have HN2 : Hid (LnAt (_root_.Go.World.setRow (w2.alloc (.cells #[.int .i64 0, .int .i64 0, .int .i64 0, .bool false, .bool false, .bool false, .bool false, .int .i64 0, .int .i64 0, .int .u8 0, .int .u8 0, .int .u8 0, .int .u8 0, .int .u8 0, .int .u8 0, .int .u8 0, .int .i64 0, .int .i64 0, .int .i64 0, .int .i64 0, .int .i64 0] 28)) w2.heap.size (mAr m)) w1.heap.size L) := (setRow_other _ w2.heap.size w1.heap.size (mAr m) (by omega)).trans ((heap_alloc_old w2 _ (by omega)).trans ((hb2.block w1.heap.size ltN2).trans HN1.out))
      have HQ2 : Hid ((_root_.Go.World.setRow (w2.alloc (.cells #[.int .i64 0, .int .i64 0, .int .i64 0, .bool false, .bool false, .bool false, .bool false, .int .i64 0, .int .i64 0, .int .u8 0, .int .u8 0, .int .u8 0, .int .u8 0, .int .u8 0, .int .u8 0, .int .u8 0, .int .i64 0, .int .i64 0, .int .i64 0, .int .i64 0, .int .i64 0] 28)) w2.heap.size (mAr m)).heap[w2.heap.size]? = some (.cells (mAr m) 28 (0, 0))) := setRow_heap _ w2.heap.size _ (mAr m) _ _ hz2.out
      have HB2 := Lib.hid (below_setRow ((HB1.out.trans (hb2.mono HB1.out.size)).alloc (Nat.le_trans HB1.out.size hb2.size) (.cells #[.int .i64 0, .int .i64 0, .int .i64 0, .bool false, .bool false, .bool false, .bool false, .int .i64 0, .int .i64 0, .int .u8 0, .int .u8 0, .int .u8 0, .int .u8 0, .int .u8 0, .int .u8 0, .int .u8 0, .int .i64 0, .int .i64 0, .int .i64 0, .int .i64 0, .int .i64 0] 28)) (show w.heap.size ≤ w2.heap.size from Nat.le_trans HB1.out.size hb2.size) (mAr m))
      have k2 := HK0.out _ HM2.out
      go_wp2_with (first
        | (refine wpList_store_row rfl 28 (.tmp 9) (.tmp 30) rfl w2.heap.size (mAr m) rfl rfl _ _ hz2.out info_msg rfl (mAr_one _) ?_)
        | (refine wpList_step (fun K hK => Eq.mpr (if_pos (by kernel_rfl)) (wp_load_row 28 (.tmp 9) rfl w2.heap.size rfl _ _ _ _ HQ2.out Try.underlying28 rfl info_msg (hK _ _ ?_))))
        | (refine wpList_step (fun K hK => Eq.mpr (if_pos (by kernel_rfl)) (wp_load_row 28 (.tmp 3) rfl w.heap.size rfl _ _ _ _ HM2.out Try.underlying28 rfl info_msg (hK _ _ ?_))))
        | (go_at_call 13; refine (HQB.out _).mono ?_; rintro e wq2 ⟨rfl, rfl⟩)
        | (refine wpList_load_row rfl 30 (.tmp 7) rfl w1.heap.size rfl _ _ _ _ HN2.out Try.underlying30 rfl info_line ?_))
      refine (HD1.out (by first | rfl | trivial) (by first | rfl | trivial) _).mono ?_
      rintro e w3 ⟨rfl, hb3⟩
      have hz3 : Hid ((w3.alloc (.cells #[.int .i64 0, .int .i64 0, .int .i64 0, .bool false, .bool false, .bool false, .bool false, .int .i64 0, .int .i64 0, .int .u8 0, .int .u8 0, .int .u8 0, .int .u8 0, .int .u8 0, .int .u8 0, .int .u8 0, .int .i64 0, .int .i64 0, .int .i64 0, .int .i64 0, .int .i64 0] 28)).heap[w3.heap.size]? = some (.cells (mAr zM) 28 (0, 0))) := heap_alloc_new w3 (.cells #[.int .i64 0, .int .i64 0, .int .i64 0, .bool false, .bool false, .bool false, .bool false, .int .i64 0, .int .i64 0, .int .u8 0, .int .u8 0, .int .u8 0, .int .u8 0, .int .u8 0, .int .u8 0, .int .u8 0, .int .i64 0, .int .i64 0, .int .i64 0, .int .i64 0, .int .i64 0] 28)
      have sz3 := hb3.size
      have ltM3 := (Array.getElem?_eq_some_iff.1 HM2.out).1
      have HM3 : Hid ((_root_.Go.World.setRow (w3.alloc (.cells #[.int .i64 0, .int .i64 0, .int .i64 0, .bool false, .bool false, .bool false, .bool false, .int .i64 0, .int .i64 0, .int .u8 0, .int .u8 0, .int .u8 0, .int .u8 0, .int .u8 0, .int .u8 0, .int .u8 0, .int .i64 0, .int .i64 0, .int .i64 0, .int .i64 0, .int .i64 0] 28)) w3.heap.size (mAr m)).heap[w.heap.size]? = some (.cells (mAr m) 28 (0, 0))) := (setRow_other _ w3.heap.size w.heap.size (mAr m) (by omega)).trans ((heap_alloc_old w3 _ (by omega)).trans ((hb3.block w.heap.size ltM3).trans HM2.out))
      have ltL3 := (Array.getElem?_eq_some_iff.1 HL2.out).1
      have HL3 : Hid (LnAt (_root_.Go.World.setRow (w3.alloc (.cells #[.int .i64 0, .int .i64 0, .int .i64 0, .bool false, .bool false, .bool false, .bool false, .int .i64 0, .int .i64 0, .int .u8 0, .int .u8 0, .int .u8 0, .int .u8 0, .int .u8 0, .int .u8 0, .int .u8 0, .int .i64 0, .int .i64 0, .int .i64 0, .int .i64 0, .int .i64 0] 28)) w3.heap.size (mAr m)) (w.heap.size + 1) l) := (setRow_other _ w3.heap.size (w.heap.size + 1) (mAr m) (by omega)).trans ((heap_alloc_old w3 _ (by omega)).trans ((hb3.block (w.heap.size + 1) ltL3).trans HL2.out))
      have ltN3 := (Array.getElem?_eq_some_iff.1 HN2.out).1
      have HN3 : Hid (LnAt (_root_.Go.World.setRow (w3.alloc (.cells #[.int .i64 0, .int .i64 0, .int .i64 0, .bool false, .bool false, .bool false, .bool false, .int .i64 0, .int .i64 0, .int .u8 0, .int .u8 0, .int .u8 0, .int .u8 0, .int .u8 0, .int .u8 0, .int .u8 0, .int .i64 0, .int .i64 0, .int .i64 0, .int .i64 0, .int .i64 0] 28)) w3.heap.size (mAr m)) w1.heap.size L) := (setRow_other _ w3.heap.size w1.heap.size (mAr m) (by omega)).trans ((heap_alloc_old w3 _ (by omega)).trans ((hb3.block w1.heap.size ltN3).trans HN2.out))
      have HQ3 : Hid ((_root_.Go.World.setRow (w3.alloc (.cells #[.int .i64 0, .int .i64 0, .int .i64 0, .bool false, .bool false, .bool false, .bool false, .int .i64 0, .int .i64 0, .int .u8 0, .int .u8 0, .int .u8 0, .int .u8 0, .int .u8 0, .int .u8 0, .int .u8 0, .int .i64 0, .int .i64 0, .int .i64 0, .int .i64 0, .int .i64 0] 28)) w3.heap.size (mAr m)).heap[w3.heap.size]? = some (.cells (mAr m) 28 (0, 0))) := setRow_heap _ w3.heap.size _ (mAr m) _ _ hz3.out
      have HB3 := Lib.hid (below_setRow ((HB2.out.trans (hb3.mono HB2.out.size)).alloc (Nat.le_trans HB2.out.size hb3.size) (.cells #[.int .i64 0, .int .i64 0, .int .i64 0, .bool false, .bool false, .bool false, .bool false, .int .i64 0, .int .i64 0, .int .u8 0, .int .u8 0, .int .u8 0, .int .u8 0, .int .u8 0, .int .u8 0, .int .u8 0, .int .i64 0, .int .i64 0, .int .i64 0, .int .i64 0, .int .i64 0] 28)) (show w.heap.size ≤ w3.heap.size from Nat.le_trans HB2.out.size hb3.size) (mAr m))
      go_wp2_with (first
        | (refine wpList_store_row rfl 28 (.tmp 11) (.tmp 45) rfl w3.heap.size (mAr m) rfl rfl _ _ hz3.out info_msg rfl (mAr_one _) ?_)
        | (refine wpList_step (fun K hK => Eq.mpr (if_pos (by kernel_rfl)) (wp_load_row 28 (.tmp 11) rfl w3.heap.size rfl _ _ _ _ HQ3.out Try.underlying28 rfl info_msg (hK _ _ ?_))))
        | (refine wpList_step (fun K hK => Eq.mpr (if_pos (by kernel_rfl)) (wp_load_row 28 (.tmp 3) rfl w.heap.size rfl _ _ _ _ HM3.out Try.underlying28 rfl info_msg (hK _ _ ?_)))))
      go_meet
      exact ⟨HM3, HL3, HB3⟩
  case rest =>
    obtain ⟨HM4, HL4, HB4⟩ := hcut
    clear HM1 HL1 HB1 HN1 HZ1 HG1
    by_cases hdf : df = 0
    case pos =>
      obtain ⟨hg0, hd0⟩ := HDO.out hdf
      subst hdf hg0
      have hcd : ∀ w : World, (Op.equalIn 10000 30 (.agg (lnA d)) (.agg (lnA l))).run Try.prog w = .ok true w := fun w => by rw [HCD.out w, hd0]
      have HCE := Lib.hid hcd
      clear hcd hd0
      go_wp2_with (refine wpList_load_row rfl 30 (.tmp 4) rfl (w.heap.size + 1) rfl _ _ _ _ HL4.out Try.underlying30 rfl info_line ?_)
      refine (HDL.out _).mono ?_
      rintro e w5 ⟨rfl, hb5⟩
      have hz5 : Hid ((w5.alloc (.cells #[.int .i64 0, .int .i64 0, .int .i64 0, .bool false, .bool false, .bool false, .bool false, .int .i64 0, .int .i64 0, .int .u8 0, .int .u8 0, .int .u8 0, .int .u8 0, .int .u8 0, .int .u8 0, .int .u8 0, .int .i64 0, .int .i64 0, .int .i64 0, .int .i64 0, .int .i64 0] 28)).heap[w5.heap.size]? = some (.cells (mAr zM) 28 (0, 0))) := heap_alloc_new w5 (.cells #[.int .i64 0, .int .i64 0, .int .i64 0, .bool false, .bool false, .bool false, .bool false, .int .i64 0, .int .i64 0, .int .u8 0, .int .u8 0, .int .u8 0, .int .u8 0, .int .u8 0, .int .u8 0, .int .u8 0, .int .i64 0, .int .i64 0, .int .i64 0, .int .i64 0, .int .i64 0] 28)
      have sz5 := hb5.size
      have ltL5 := (Array.getElem?_eq_some_iff.1 HL4.out).1
      have HL5 : Hid (LnAt (_root_.Go.World.setRow (w5.alloc (.cells #[.int .i64 0, .int .i64 0, .int .i64 0, .bool false, .bool false, .bool false, .bool false, .int .i64 0, .int .i64 0, .int .u8 0, .int .u8 0, .int .u8 0, .int .u8 0, .int .u8 0, .int .u8 0, .int .u8 0, .int .i64 0, .int .i64 0, .int .i64 0, .int .i64 0, .int .i64 0] 28)) w5.heap.size (mAr D1)) (w.heap.size + 1) l) := (setRow_other _ w5.heap.size (w.heap.size + 1) (mAr D1) (by omega)).trans ((heap_alloc_old w5 _ (by omega)).trans ((hb5.block (w.heap.size + 1) ltL5).trans HL4.out))
      have HQ5 : Hid ((_root_.Go.World.setRow (w5.alloc (.cells #[.int .i64 0, .int .i64 0, .int .i64 0, .bool false, .bool false, .bool false, .bool false, .int .i64 0, .int .i64 0, .int .u8 0, .int .u8 0, .int .u8 0, .int .u8 0, .int .u8 0, .int .u8 0, .int .u8 0, .int .i64 0, .int .i64 0, .int .i64 0, .int .i64 0, .int .i64 0] 28)) w5.heap.size (mAr D1)).heap[w5.heap.size]? = some (.cells (mAr D1) 28 (0, 0))) := setRow_heap _ w5.heap.size _ (mAr D1) _ _ hz5.out
      have HB5 := Lib.hid (below_setRow ((HB4.out.trans (hb5.mono HB4.out.size)).alloc (Nat.le_trans HB4.out.size hb5.size) (.cells #[.int .i64 0, .int .i64 0, .int .i64 0, .bool false, .bool false, .bool false, .bool false, .int .i64 0, .int .i64 0, .int .u8 0, .int .u8 0, .int .u8 0, .int .u8 0, .int .u8 0, .int .u8 0, .int .u8 0, .int .i64 0, .int .i64 0, .int .i64 0, .int .i64 0, .int .i64 0] 28)) (show w.heap.size ≤ w5.heap.size from Nat.le_trans HB4.out.size hb5.size) (mAr D1))
      go_wp2_with (first
        | (refine wpList_store_row rfl 28 (.tmp 13) (.tmp 58) rfl w5.heap.size (mAr D1) rfl rfl _ _ hz5.out info_msg rfl (mAr_one _) ?_)
        | (refine wpList_load_row rfl 28 (.tmp 13) rfl w5.heap.size rfl _ _ _ _ HQ5.out Try.underlying28 rfl info_msg ?_))
      refine (HEE.out _).mono ?_
      rintro e w7 ⟨rfl, hb7⟩
      have hz7 := Lib.hid (ln_zero w7)
      have sz7 := hb7.size
      have lt7 := HL5.out.lt
      have HL8 : Hid (LnAt (_root_.Go.World.setRow (w7.alloc (.cells #[.int .u8 0, .int .u8 0, .int .u8 0, .int .u8 0, .int .u8 0, .int .u8 0, .int .u8 0, .int .u8 0] 30)) w7.heap.size (lnA d)) (w.heap.size + 1) l) := (setRow_other _ w7.heap.size (w.heap.size + 1) (lnA d) (by omega)).trans ((heap_alloc_old w7 _ (by omega)).trans ((hb7.block (w.heap.size + 1) lt7).trans HL5.out))
      have HN8 : Hid (LnAt (_root_.Go.World.setRow (w7.alloc (.cells #[.int .u8 0, .int .u8 0, .int .u8 0, .int .u8 0, .int .u8 0, .int .u8 0, .int .u8 0, .int .u8 0] 30)) w7.heap.size (lnA d)) w7.heap.size d) := setRow_heap _ w7.heap.size _ (lnA d) _ _ hz7.out
      have HB8 := Lib.hid (below_setRow ((HB5.out.trans (hb7.mono HB5.out.size)).alloc (Nat.le_trans HB5.out.size hb7.size) (.cells #[.int .u8 0, .int .u8 0, .int .u8 0, .int .u8 0, .int .u8 0, .int .u8 0, .int .u8 0, .int .u8 0] 30)) (show w.heap.size ≤ w7.heap.size from Nat.le_trans HB5.out.size hb7.size) (lnA d))
      have hcd := HCE.out
      go_wp2_with (first
        | (refine wpList_store_row rfl 30 (.tmp 15) (.tmp 71) rfl w7.heap.size (lnA d) rfl rfl _ _ hz7.out info_line rfl (ln_one _) ?_)
        | (go_at_call 9; refine (live17_any _).mono ?_; rintro e w9 ⟨rfl, hb9⟩; have HN9 := Lib.hid (HN8.out.below hb9 HN8.out.lt); have HL9 := Lib.hid (HL8.out.below hb9 HL8.out.lt); have HB9 := Lib.hid (HB8.out.trans (hb9.mono HB8.out.size)))
        | (refine wpList_step (fun K hK => Eq.mpr (if_pos (by kernel_rfl)) (wp_load_row 30 (.tmp 15) rfl w7.heap.size rfl _ _ _ _ HN9.out Try.underlying30 rfl info_line (hK _ _ ?_))))
        | (refine wpList_step (fun K hK => Eq.mpr (if_pos (by kernel_rfl)) (wp_load_row 30 (.tmp 4) rfl (w.heap.size + 1) rfl _ _ _ _ HL9.out Try.underlying30 rfl info_line (hK _ _ ?_)))))
      go_ret
      exact ⟨rfl, HB9.out⟩
    case neg =>
      obtain rfl := HDN.out hdf
      go_wp2_with (refine wpList_load_row rfl 30 (.tmp 4) rfl (w.heap.size + 1) rfl _ _ _ _ HL4.out Try.underlying30 rfl info_line ?_)
      refine (HDL.out _).mono ?_
      rintro e w5 ⟨rfl, hb5⟩
      have hz5 : Hid ((w5.alloc (.cells #[.int .i64 0, .int .i64 0, .int .i64 0, .bool false, .bool false, .bool false, .bool false, .int .i64 0, .int .i64 0, .int .u8 0, .int .u8 0, .int .u8 0, .int .u8 0, .int .u8 0, .int .u8 0, .int .u8 0, .int .i64 0, .int .i64 0, .int .i64 0, .int .i64 0, .int .i64 0] 28)).heap[w5.heap.size]? = some (.cells (mAr zM) 28 (0, 0))) := heap_alloc_new w5 (.cells #[.int .i64 0, .int .i64 0, .int .i64 0, .bool false, .bool false, .bool false, .bool false, .int .i64 0, .int .i64 0, .int .u8 0, .int .u8 0, .int .u8 0, .int .u8 0, .int .u8 0, .int .u8 0, .int .u8 0, .int .i64 0, .int .i64 0, .int .i64 0, .int .i64 0, .int .i64 0] 28)
      have sz5 := hb5.size
      have ltL5 := (Array.getElem?_eq_some_iff.1 HL4.out).1
      have HL5 : Hid (LnAt (_root_.Go.World.setRow (w5.alloc (.cells #[.int .i64 0, .int .i64 0, .int .i64 0, .bool false, .bool false, .bool false, .bool false, .int .i64 0, .int .i64 0, .int .u8 0, .int .u8 0, .int .u8 0, .int .u8 0, .int .u8 0, .int .u8 0, .int .u8 0, .int .i64 0, .int .i64 0, .int .i64 0, .int .i64 0, .int .i64 0] 28)) w5.heap.size (mAr zM)) (w.heap.size + 1) l) := (setRow_other _ w5.heap.size (w.heap.size + 1) (mAr zM) (by omega)).trans ((heap_alloc_old w5 _ (by omega)).trans ((hb5.block (w.heap.size + 1) ltL5).trans HL4.out))
      have HQ5 : Hid ((_root_.Go.World.setRow (w5.alloc (.cells #[.int .i64 0, .int .i64 0, .int .i64 0, .bool false, .bool false, .bool false, .bool false, .int .i64 0, .int .i64 0, .int .u8 0, .int .u8 0, .int .u8 0, .int .u8 0, .int .u8 0, .int .u8 0, .int .u8 0, .int .i64 0, .int .i64 0, .int .i64 0, .int .i64 0, .int .i64 0] 28)) w5.heap.size (mAr zM)).heap[w5.heap.size]? = some (.cells (mAr zM) 28 (0, 0))) := setRow_heap _ w5.heap.size _ (mAr zM) _ _ hz5.out
      have HB5 := Lib.hid (below_setRow ((HB4.out.trans (hb5.mono HB4.out.size)).alloc (Nat.le_trans HB4.out.size hb5.size) (.cells #[.int .i64 0, .int .i64 0, .int .i64 0, .bool false, .bool false, .bool false, .bool false, .int .i64 0, .int .i64 0, .int .u8 0, .int .u8 0, .int .u8 0, .int .u8 0, .int .u8 0, .int .u8 0, .int .u8 0, .int .i64 0, .int .i64 0, .int .i64 0, .int .i64 0, .int .i64 0] 28)) (show w.heap.size ≤ w5.heap.size from Nat.le_trans HB4.out.size hb5.size) (mAr zM))
      have hcz := HCZ.out
      go_wp2_with (first
        | (refine wpList_store_row rfl 28 (.tmp 13) (.tmp 58) rfl w5.heap.size (mAr zM) rfl rfl _ _ hz5.out info_msg rfl (mAr_one _) ?_)
        | (go_at_call 9; refine (live17_any _).mono ?_; rintro e w9 ⟨rfl, hb9⟩; have HQ9 := Lib.hid ((hb9.block w5.heap.size (Array.getElem?_eq_some_iff.1 HQ5.out).1).trans HQ5.out); have HB9 := Lib.hid (HB5.out.trans (hb9.mono HB5.out.size)))
        | (refine wpList_step (fun K hK => Eq.mpr (if_pos (by kernel_rfl)) (wp_load_row 28 (.tmp 13) rfl w5.heap.size rfl _ _ _ _ HQ9.out Try.underlying28 rfl info_msg (hK _ _ ?_)))))
      all_goals first
        | (exfalso; simp_all; done)
        | (go_ret; exact ⟨rfl, HB9.out⟩)
end Go.Proofs.Ytbbkobfibobfcaa
