/- The walk of NmtObeys. -/
import Derived.Test.YtnijdcbpllmieaaNk
import Derived.Deep.CutBlock
namespace Go.Proofs.Ytnijdcbpllmieaa
open Go.RowKit
set_option linter.unusedSimpArgs false
set_option linter.unusedVariables false

theorem obeys_no (nd : Int) (A : Option Addr) (N c : Nat) (w : World) (hn : nd < 1 ∨ 127 < nd) :
    Calls Try.prog 4 #[.int .i64 nd, .slice A N c] w fun e w' => e = .returned (.bool true) ∧ Below w.heap.size w w' := by
  have HN := Lib.hid (fun w => mnew_no nd w hn)
  rcases hn with hn | hn
  · go_enter Try.func4, Try.ntmps4
    go_wp2_with (first | (go_at_call 13; refine (HN.out _).mono ?_; rintro e w1 ⟨rfl, rfl⟩) | (go_at_call 12; refine (live21_any _).mono ?_; rintro e w2 ⟨rfl, hb⟩))
    go_ret
    exact ⟨rfl, hb⟩
  · have hn1 : ¬ nd < 1 := by omega
    go_enter Try.func4, Try.ntmps4
    go_wp2_with (first | (go_at_call 13; refine (HN.out _).mono ?_; rintro e w1 ⟨rfl, rfl⟩) | (go_at_call 12; refine (live21_any _).mono ?_; rintro e w2 ⟨rfl, hb⟩))
    go_ret
    exact ⟨rfl, hb⟩
set_option maxRecDepth 100000 in
set_option maxHeartbeats 4000000 in
theorem obeys_yes (nd : Int) (A : Option Addr) (N c : Nat) (fs : Nat → Bool × Int × Int) (w : World) (h0 : 1 ≤ nd) (h1 : nd ≤ 127) (h : Els DeN 3 w w.heap.size A N c fs) :
    Calls Try.prog 4 #[.int .i64 nd, .slice A N c] w fun e w' => e = .returned (.bool true) ∧ Below w.heap.size w w' := by
  have hcap := h.cap
  have hmax := h.max
  simp only [maxLen] at hmax
  have HN := Lib.hid (fun w => mnew_ok nd w h0 h1)
  have HL := Lib.hid (fun y (hy : Below w.heap.size w y) => h.below (fun b o x hlt hx => DeN.below hx hlt hy))
  have HB := Lib.hid (show Below w.heap.size w (w.alloc (.cells #[.int .i64 nd, .int .i64 0] 61)) from (Below.refl _ _).alloc (Nat.le_refl _) _)
  have HM := Lib.hid (ma_new w nd 0)
  have h0' : ¬ nd < 1 := by omega
  have h1' : ¬ 127 < nd := by omega
  clear h
  go_enter Try.func4, Try.ntmps4
  go_wp2_with (go_at_call 13; refine (HN.out _).mono ?_; rintro e w1 ⟨rfl, rfl⟩)
  generalize w.alloc (.cells #[.int .i64 nd, .int .i64 0] 61) = w1 at *
  have tnd : (nd != nd) = false := by simp
  go_loopw [7, 8] (fun m i wr => ∃ (j : Nat) (md : Int), j ≤ N ∧ j ≤ 60 ∧ m = .int .i64 md ∧ i = .int .i64 j ∧ Hid (MaAt wr w.heap.size nd md) ∧ Hid (Below w.heap.size w wr) ∧ Hid (md = 0 ∨ md = 4 ∨ md = 5 ∨ md = 127)) (fun _ i _ => 60 - (intOf i).toNat)
  case atStart => exact ⟨0, 0, by omega, by omega, rfl, rfl, HM.out, HB.out, .inl rfl⟩
  case round =>
    clear HM HB HN
    obtain ⟨j, md, hj, hj6, rfl, rfl, HM, HB, HI⟩ := hrel
    by_cases hlt : j < N ∧ j < 60
    · obtain ⟨hlt, hl6⟩ := hlt
      have hjI : (j : Int) < 60 := by omega
      have HB0 := Lib.hid HB.out.size
      obtain ⟨bb, off, rfl, hbb, hcell⟩ := (HL.out wr HB.out).cells (by omega)
      have HD := Lib.hid (fun y (hy : Below wr.heap.size wr y) => (hcell j hlt).below (B := w.heap.size) hbb (hy.mono HB0.out))
      obtain ⟨d0, d1, d2⟩ := hcell j hlt
      clear hcell
      generalize fs j = x at *
      obtain ⟨q, v, n⟩ := x
      simp only at d0 d1 d2
      cases q with
      | false =>
        have HX := Lib.hid (nxt_in (nd := nd) (v := v) (n := n) HI.out)
        go_wp2_with (go_at_call 14; refine (rbehind_any _ _ _ _ _).mono ?_; rintro e w2 ⟨rfl, hb2⟩; obtain ⟨d0', d1', d2'⟩ := HD.out _ hb2; simp only at d0' d1' d2'; clear d0 d1 d2; have HM1 := Lib.hid (HM.out.below hb2 HM.out.lt); have HB1 := Lib.hid (HB.out.trans (hb2.mono HB0.out)); clear hb2)
        refine (obey_any _ _ _ _ _ _ HM1.out HI.out).mono ?_
        rintro e w3 ⟨rfl, hm3, hg3⟩
        have HM2 := Lib.hid hm3
        have HB2 := Lib.hid (below_grown HB1.out hg3 (Nat.le_refl _) HB1.out.size)
        have HI2 := HX
        clear hm3 hg3 HM1 HB1 HX
        generalize nxt nd md v n = m' at *
        have tmm : (m' != m') = false := by simp
        have tqq : ((m' != md) != (m' != md)) = false := by simp
        go_wp2_with (first | (go_at_call 17; refine (mode_any _ _ _ _ HM2.out).mono ?_; rintro e w6 ⟨rfl, rfl⟩) | (go_at_call 18; refine (node_any _ _ _ _ HM2.out).mono ?_; rintro e w6 ⟨rfl, rfl⟩))
        go_roundw
        case rel => exact ⟨j + 1, m', by omega, by omega, rfl, by go_num, HM2.out, HB2.out, by first | exact HI2.out | exact Lib.hid (by omega)⟩
        case measure => simp [intOf]; omega
      | true =>
        by_cases hz : md = 0
        · subst hz
          go_wp2_with (go_at_call 14; refine (rbehind_any _ _ _ _ _).mono ?_; rintro e w2 ⟨rfl, hb2⟩; obtain ⟨d0', d1', d2'⟩ := HD.out _ hb2; simp only at d0' d1' d2'; clear d0 d1 d2; have HM1 := Lib.hid (HM.out.below hb2 HM.out.lt); have HB1 := Lib.hid (HB.out.trans (hb2.mono HB0.out)); clear hb2)
          refine (boot_yes _ _ _ HM1.out).mono ?_
          rintro e w3 ⟨rfl, rfl⟩
          have HM2 := Lib.hid (HM1.out.set 127)
          have HB2 := Lib.hid (below_grown HB1.out (gb_set w2 w.heap.size 1 (.int .i64 127)) (Nat.le_refl _) HB1.out.size)
          have HI2 : Hid ((127 : Int) = 0 ∨ (127 : Int) = 4 ∨ (127 : Int) = 5 ∨ (127 : Int) = 127) := Lib.hid (by omega)
          clear HM1 HB1
          generalize w2.setCell ⟨w.heap.size, 1, none⟩ (.int .i64 127) = w3 at *
          go_wp2_with (first | (go_at_call 17; refine (mode_any _ _ _ _ HM2.out).mono ?_; rintro e w6 ⟨rfl, rfl⟩) | (go_at_call 18; refine (node_any _ _ _ _ HM2.out).mono ?_; rintro e w6 ⟨rfl, rfl⟩))
          go_roundw
          case rel => exact ⟨j + 1, 127, by omega, by omega, rfl, by go_num, HM2.out, HB2.out, by first | exact HI2.out | exact Lib.hid (by omega)⟩
          case measure => simp [intOf]; omega
        · have t0 : (md == 0) = false := by simpa using hz
          have HNZ := Lib.hid hz
          clear hz
          go_wp2_with (go_at_call 14; refine (rbehind_any _ _ _ _ _).mono ?_; rintro e w2 ⟨rfl, hb2⟩; obtain ⟨d0', d1', d2'⟩ := HD.out _ hb2; simp only at d0' d1' d2'; clear d0 d1 d2; have HM1 := Lib.hid (HM.out.below hb2 HM.out.lt); have HB1 := Lib.hid (HB.out.trans (hb2.mono HB0.out)); clear hb2)
          refine (boot_no _ _ _ _ HM1.out HNZ.out).mono ?_
          rintro e w3 ⟨rfl, rfl⟩
          have HM2 := HM1
          have HB2 := HB1
          have HI2 := HI
          clear HM1 HB1
          have tmm : (md != md) = false := by simp
          go_wp2_with (first | (go_at_call 17; refine (mode_any _ _ _ _ HM2.out).mono ?_; rintro e w6 ⟨rfl, rfl⟩) | (go_at_call 18; refine (node_any _ _ _ _ HM2.out).mono ?_; rintro e w6 ⟨rfl, rfl⟩))
          go_roundw
          case rel => exact ⟨j + 1, md, by omega, by omega, rfl, by go_num, HM2.out, HB2.out, by first | exact HI2.out | exact Lib.hid (by omega)⟩
          case measure => simp [intOf]; omega
    · have hge : ¬ (j : Int) < (N : Int) ∨ ((j : Int) < (N : Int) ∧ ¬ (j : Int) < 60) := by omega
      have HE := Lib.hid (fun (P : Prop) (hA : ¬ (j : Int) < (N : Int) → P) (hB : (j : Int) < (N : Int) ∧ ¬ (j : Int) < 60 → P) => hge.elim hA hB)
      clear hlt hge
      refine HE.out _ (fun h1 => ?_) (fun h1 => ?_)
      all_goals
        clear HE
        try obtain ⟨h1, h2⟩ := h1
        go_wp2_with (go_at_call 12; refine (live21_any _).mono ?_; rintro e w2 ⟨rfl, hb⟩)
        go_ret
        exact ⟨rfl, HB.out.trans (hb.mono HB.out.size)⟩
end Go.Proofs.Ytnijdcbpllmieaa
