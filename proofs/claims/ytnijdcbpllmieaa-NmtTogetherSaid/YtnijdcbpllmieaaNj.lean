/- The walk of NmtTogether. -/
import Derived.Test.YtnijdcbpllmieaaNg
import Derived.Deep.CutBlock
import Derived.Test.YtnijdcbpllmieaaNRl
namespace Go.Proofs.Ytnijdcbpllmieaa
open Go.RowKit
set_option linter.unusedSimpArgs false
set_option linter.unusedVariables false

theorem nxt_same (a b md v : Int) : nxt a md v 0 = nxt b md v 0 := by unfold nxt; simp
/-- The two nodes, and the order that is asked of the fork. -/
structure Two (w wr : World) (nd1 nd2 a b v n : Int) : Prop where
  m1 : MaAt wr (w.heap.size + 1) nd1 a
  m2 : MaAt wr (w.heap.size + 1 + 1) nd2 b
  o : OrAt wr w.heap.size v n
  bel : Below w.heap.size w wr
  in_ : b = 0 ∨ b = 4 ∨ b = 5 ∨ b = 127
section
variable {w wr w' : World} {nd1 nd2 a b v n : Int}
theorem Two.below (h : Two w wr nd1 nd2 a b v n) (hb : Below wr.heap.size wr w') : Two w w' nd1 nd2 a b v n :=
  ⟨h.m1.below hb h.m1.lt, h.m2.below hb h.m2.lt, h.o.below hb h.o.lt, h.bel.trans (hb.mono h.bel.size), h.in_⟩
theorem Two.one {a' : Int} (h : Two w wr nd1 nd2 a b v n) (hm : MaAt w' (w.heap.size + 1) nd1 a') (hg : wr.grownBy w' (some (w.heap.size + 1))) : Two w w' nd1 nd2 a' b v n :=
  ⟨hm, h.m2.grown hg (by omega), h.o.gb hg (by omega), below_grown h.bel hg (by omega) h.bel.size, h.in_⟩
theorem Two.two {b' : Int} (h : Two w wr nd1 nd2 a b v n) (hm : MaAt w' (w.heap.size + 1 + 1) nd2 b') (hg : wr.grownBy w' (some (w.heap.size + 1 + 1))) (hi : b' = 0 ∨ b' = 4 ∨ b' = 5 ∨ b' = 127) : Two w w' nd1 nd2 a b' v n :=
  ⟨h.m1.grown hg (by omega), hm, h.o.gb hg (by omega), below_grown h.bel hg (by omega) h.bel.size, hi⟩
theorem Two.other {g : Nat} (h : Two w wr nd1 nd2 a b v n) (hg : wr.grownBy w' (some g)) (hl : w.heap.size + 1 + 1 < g) : Two w w' nd1 nd2 a b v n :=
  ⟨h.m1.grown hg (by omega), h.m2.grown hg (by omega), h.o.gb hg (by omega), below_grown h.bel hg (by omega) h.bel.size, h.in_⟩
theorem Two.drew (h : Two w wr nd1 nd2 a b v n) : Two w wr.drew nd1 nd2 a b v n := ⟨h.m1, h.m2, h.o, h.bel.drew, h.in_⟩
end
set_option maxRecDepth 100000 in
set_option maxHeartbeats 4000000 in
theorem together_walk (a b : Int) (A : Option Addr) (N c : Nat) (l : List Int) (v n : Int) (w : World) (ha : 0 ≤ a ∧ a ≤ 255) (hb : 0 ≤ b ∧ b ≤ 255) (h : Nums w w.heap.size A N c l) :
    Calls Try.prog 6 #[.int .u8 a, .int .u8 b, .slice A N c, .agg #[.int .i64 v, .int .i64 n]] w fun e w' => e = .returned (.bool true) ∧ Below w.heap.size w w' := by
  have hcap := h.cap
  have hmax := h.max
  simp only [maxLen] at hmax
  obtain ⟨ha0, ha1⟩ := ha
  obtain ⟨hb0, hb1⟩ := hb
  have HN1 := Lib.hid (fun w => mnew_ok (1 + a % 127) w (by omega) (by omega))
  have HN2 := Lib.hid (fun w => mnew_ok (1 + b % 127) w (by omega) (by omega))
  have HO := Lib.hid (or_new w v n)
  have HB := Lib.hid (show Below w.heap.size w (w.alloc (.cells #[.int .i64 v, .int .i64 n] 24)) from (Below.refl _ _).alloc (Nat.le_refl _) _)
  have HZ := Lib.hid (show (w.alloc (.cells #[.int .i64 v, .int .i64 n] 24)).heap.size = w.heap.size + 1 by simp)
  have HL := Lib.hid h
  clear h
  go_enter Try.func6, Try.ntmps6
  go_wp2_with fail
  generalize (w.alloc (.cells #[.int .i64 v, .int .i64 n] 24)) = w0 at *
  refine (HN1.out _).mono ?_
  rintro e w1 ⟨rfl, rfl⟩
  go_wp2_with fail
  refine (HN2.out _).mono ?_
  rintro e w2 ⟨rfl, rfl⟩
  generalize 1 + a % 127 = nd1 at *
  generalize 1 + b % 127 = nd2 at *
  have hm1 : MaAt (w0.alloc (.cells #[.int .i64 nd1, .int .i64 0] 61)) w0.heap.size nd1 0 := ma_new w0 nd1 0
  have hba : Below w0.heap.size w0 (w0.alloc (.cells #[.int .i64 nd1, .int .i64 0] 61)) := (Below.refl _ _).alloc (Nat.le_refl _) _
  have hbb : Below (w0.alloc (.cells #[.int .i64 nd1, .int .i64 0] 61)).heap.size (w0.alloc (.cells #[.int .i64 nd1, .int .i64 0] 61)) ((w0.alloc (.cells #[.int .i64 nd1, .int .i64 0] 61)).alloc (.cells #[.int .i64 nd2, .int .i64 0] 61)) := (Below.refl _ _).alloc (Nat.le_refl _) _
  have hm2 := ma_new (w0.alloc (.cells #[.int .i64 nd1, .int .i64 0] 61)) nd2 0
  have hz1 : (w0.alloc (.cells #[.int .i64 nd1, .int .i64 0] 61)).heap.size = w0.heap.size + 1 := by simp
  rw [hz1, HZ.out] at hm2
  rw [HZ.out] at hm1
  have HT := Lib.hid (show Two w ((w0.alloc (.cells #[.int .i64 nd1, .int .i64 0] 61)).alloc (.cells #[.int .i64 nd2, .int .i64 0] 61)) nd1 nd2 0 0 v n from
    ⟨hm1.below hbb hm1.lt, hm2, (HO.out.below hba HO.out.lt).below hbb (by have := HO.out.lt; rw [hz1]; omega), (HB.out.trans (hba.mono HB.out.size)).trans (hbb.mono (by rw [hz1]; have := HB.out.size; omega)), .inl rfl⟩)
  clear hm1 hba hbb hm2 hz1 HO HB HN1 HN2
  go_wp2_with fail
  rw [HZ.out]
  generalize (w0.alloc (.cells #[.int .i64 nd1, .int .i64 0] 61)).alloc (.cells #[.int .i64 nd2, .int .i64 0] 61) = w2 at *
  refine (boot_yes _ _ _ HT.out.m1).mono ?_
  rintro e w3 ⟨rfl, rfl⟩
  have HT1 := Lib.hid (HT.out.one (HT.out.m1.set 127) (gb_set w2 _ 1 (.int .i64 127)))
  clear HT
  go_wp2_with fail
  refine (boot_yes _ _ _ HT1.out.m2).mono ?_
  rintro e w4 ⟨rfl, rfl⟩
  have HT := Lib.hid (HT1.out.two (HT1.out.m2.set 127) (gb_set (w2.setCell ⟨w.heap.size + 1, 1, none⟩ (.int .i64 127)) _ 1 (.int .i64 127)) (.inr (.inr (.inr rfl))))
  clear HT1
  generalize (w2.setCell ⟨w.heap.size + 1, 1, none⟩ (.int .i64 127)).setCell ⟨w.heap.size + 1 + 1, 1, none⟩ (.int .i64 127) = w5 at *
  have HG : Hid (w.heap.size + 1 + 1 < w5.heap.size) := Lib.hid HT.out.m2.lt
  clear HG HZ
  go_wp2_with fail
  go_loopw [13] (fun i wr => ∃ (j : Nat) (md : Int), j ≤ N ∧ j ≤ 40 ∧ i = .int .i64 j ∧ Hid (Two w wr nd1 nd2 md md v n ∧ ¬ md = 0)) (fun i _ => 40 - (intOf i).toNat)
  case atStart => exact ⟨0, 127, by omega, by omega, rfl, HT.out, by omega⟩
  case round =>
    clear HT
    obtain ⟨j, md, hj, hj4, rfl, HTm⟩ := hrel
    have HT := Lib.hid HTm.out.1
    have HM0 := Lib.hid HTm.out.2
    clear HTm
    by_cases hlt : j < N ∧ j < 40
    · obtain ⟨hlt, hl4⟩ := hlt
      have hjI : (j : Int) < 40 := by omega
      have hLw := (HL.out.below HT.out.bel)
      obtain ⟨bb, off, rfl, hbb, hcell⟩ := hLw.cells (by omega)
      have hcj := hcell j hlt
      generalize l.getD j 0 = vv at hcj
      have hba : Below wr.heap.size wr (wr.alloc (.cells #[.int .i64 vv, .int .i64 0] 24)) := (Below.refl _ _).alloc (Nat.le_refl _) _
      have HT1 := Lib.hid (HT.out.below hba)
      have HV1 := Lib.hid (or_new wr vv 0)
      have HVL := Lib.hid HT.out.m2.lt
      clear hLw hcell hba
      go_upto_region 9 with fail
      clear hcj HT
      generalize (wr.alloc (.cells #[.int .i64 vv, .int .i64 0] 24)) = w3 at *
      generalize wr.heap.size = gv at *
      refine wp_region_last (fun x => x.cell? ⟨gv, 0, none⟩ = some (.int .i64 vv) ∧ x.cell? ⟨gv, 1, none⟩ = some (.int .i64 0)) 13 (by kernel_rfl) ⟨HV1.out.cells.1, HV1.out.cells.2⟩ (fun hHeld => ?_)
      replace HT1 : Hid (Two w w3.drew nd1 nd2 md md v n) := Lib.hid HT1.out.drew
      replace HV1 : Hid (OrAt w3.drew gv vv 0) := HV1
      generalize w3.drew = w3 at *
      refine wpAnyL_take (i := 0) (v := ?_) rfl (by kernel_rfl) (by kernel_rfl) (by kernel_rfl) (by kernel_rfl) (by kernel_rfl) (fun _ _ _ h => h) (Or.inl ⟨by rfl, ?_⟩) (by assumption) ?_
      rotate_left
      · intro wq hSw; (try dsimp only at hSw); first | (go_simp; done) | (go_simp; with_reducible rfl) | with_reducible rfl
      try simp only [Act.put, List.setIfInBounds_toArray, List.set_cons_zero, List.set_cons_succ, List.getElem_toArray, List.getElem_cons_zero, List.getElem_cons_succ]
      refine wpAnyL_take (i := 1) (v := .agg #[.int .i64 vv, .int .i64 0]) rfl (by kernel_rfl) (by kernel_rfl) (by kernel_rfl) (by kernel_rfl) (by kernel_rfl) (fun _ _ _ h => h) (Or.inl ⟨by rfl, ?_⟩) (by assumption) ?_
      · intro wq hSw; (try dsimp only at hSw); first | (go_simp; done) | (go_simp; with_reducible rfl) | with_reducible rfl
      try simp only [Act.put, List.setIfInBounds_toArray, List.set_cons_zero, List.set_cons_succ, List.getElem_toArray, List.getElem_cons_zero, List.getElem_cons_succ]
      refine wpAnyL_take (i := 3) (v := ?_) rfl (by kernel_rfl) (by kernel_rfl) (by kernel_rfl) (by kernel_rfl) (by kernel_rfl) (fun _ _ _ h => h) (Or.inl ⟨by rfl, ?_⟩) (by assumption) ?_
      rotate_left
      · intro wq hSw; (try dsimp only at hSw); first | (go_simp; done) | (go_simp; with_reducible rfl) | with_reducible rfl
      try simp only [Act.put, List.setIfInBounds_toArray, List.set_cons_zero, List.set_cons_succ, List.getElem_toArray, List.getElem_cons_zero, List.getElem_cons_succ]
      refine wpAnyL_take (i := 4) (v := .agg #[.int .i64 vv, .int .i64 0]) rfl (by kernel_rfl) (by kernel_rfl) (by kernel_rfl) (by kernel_rfl) (by kernel_rfl) (fun _ _ _ h => h) (Or.inl ⟨by rfl, ?_⟩) (by assumption) ?_
      · intro wq hSw; (try dsimp only at hSw); first | (go_simp; done) | (go_simp; with_reducible rfl) | with_reducible rfl
      try simp only [Act.put, List.setIfInBounds_toArray, List.set_cons_zero, List.set_cons_succ, List.getElem_toArray, List.getElem_cons_zero, List.getElem_cons_succ]
      refine wpAnyL_ready (rs := [2]) (by kernel_rfl) (by simp) ?_
      refine (AllReadyL.cons rfl (fun K hK => ?_) AllReadyL.nil)
      go_simp
      go_wp2_with fail
      refine (obey_any _ _ _ _ _ _ HT1.out.m1 HT1.out.in_).mono ?_
      rintro e w4 ⟨rfl, hm4, hg4⟩
      have HT4 := Lib.hid (HT1.out.one hm4 hg4)
      have HV4 := Lib.hid (HV1.out.gb hg4 (by have := HT1.out.bel.size; have := HVL.out; omega))
      clear hm4 hg4
      refine hK.out _ _ ?_ (fun hHeld => ?_)
      · (try dsimp only); exact ⟨HV4.out.cells.1, HV4.out.cells.2⟩
      clear hK K
      refine wpAnyL_ready (rs := [5]) (by kernel_rfl) (by simp) ?_
      refine (AllReadyL.cons rfl (fun K hK => ?_) AllReadyL.nil)
      go_simp
      go_wp2_with fail
      refine (obey_any _ _ _ _ _ _ HT4.out.m2 HT1.out.in_).mono ?_
      rintro e w5 ⟨rfl, hm5, hg5⟩
      have HT5 := Lib.hid (HT4.out.two hm5 hg5 (nxt_in HT1.out.in_))
      have HV5 := Lib.hid (HV4.out.gb hg5 (by have := HT1.out.bel.size; have := HVL.out; omega))
      clear hm5 hg5
      refine hK.out _ _ ?_ (fun hHeld => ?_)
      · (try dsimp only); exact ⟨HV5.out.cells.1, HV5.out.cells.2⟩
      clear hK K
      rw [nxt_same nd2 nd1 md vv] at *
      have HX := Lib.hid (nxt_in (nd := nd1) (md := md) (v := vv) (n := 0) HT1.out.in_)
      generalize nxt nd1 md vv 0 = m' at *
      refine wpAnyL_take (i := 6) (v := .bool false) rfl (by kernel_rfl) (by kernel_rfl) (by kernel_rfl) (by kernel_rfl) (by kernel_rfl) (fun _ _ _ h => h) (Or.inl ⟨by rfl, ?_⟩) (by assumption) ?_
      · intro wq hSw; (try dsimp only at hSw); first | (go_simp; done) | (go_simp; with_reducible rfl) | with_reducible rfl
      try simp only [Act.put, List.setIfInBounds_toArray, List.set_cons_zero, List.set_cons_succ, List.getElem_toArray, List.getElem_cons_zero, List.getElem_cons_succ]
      refine wpAnyL_take (i := 7) (v := .bool false) rfl (by kernel_rfl) (by kernel_rfl) (by kernel_rfl) (by kernel_rfl) (by kernel_rfl) (fun _ _ _ h => h) (Or.inl ⟨by rfl, ?_⟩) (by assumption) ?_
      · intro wq hSw; (try dsimp only at hSw); first | (go_simp; done) | (go_simp; with_reducible rfl) | with_reducible rfl
      try simp only [Act.put, List.setIfInBounds_toArray, List.set_cons_zero, List.set_cons_succ, List.getElem_toArray, List.getElem_cons_zero, List.getElem_cons_succ]
      refine wpAnyL_take (i := 8) (v := ?_) rfl (by kernel_rfl) (by kernel_rfl) (by kernel_rfl) (by kernel_rfl) (by kernel_rfl) (fun _ _ _ h => h) (Or.inl ⟨by rfl, ?_⟩) (by assumption) ?_
      rotate_left
      · intro wq hSw; (try dsimp only at hSw); first | (go_simp; done) | (go_simp; with_reducible rfl) | with_reducible rfl
      try simp only [Act.put, List.setIfInBounds_toArray, List.set_cons_zero, List.set_cons_succ, List.getElem_toArray, List.getElem_cons_zero, List.getElem_cons_succ]
      refine wpAnyL_take (i := 10) (v := ?_) rfl (by kernel_rfl) (by kernel_rfl) (by kernel_rfl) (by kernel_rfl) (by kernel_rfl) (fun _ _ _ h => h) (Or.inl ⟨by rfl, ?_⟩) (by assumption) ?_
      rotate_left
      · intro wq hSw; (try dsimp only at hSw); first | (go_simp; done) | (go_simp; with_reducible rfl) | with_reducible rfl
      try simp only [Act.put, List.setIfInBounds_toArray, List.set_cons_zero, List.set_cons_succ, List.getElem_toArray, List.getElem_cons_zero, List.getElem_cons_succ]
      refine wpAnyL_ready (rs := [9]) (by kernel_rfl) (by simp) ?_
      refine (AllReadyL.cons rfl (fun K hK => ?_) AllReadyL.nil)
      go_simp
      go_wp2_with fail
      refine (mode_any _ _ _ _ HT5.out.m1).mono ?_
      rintro e w6 ⟨rfl, rfl⟩
      refine hK.out _ _ ?_ (fun hHeld => ?_)
      · (try dsimp only); exact hHeld
      clear hK K
      refine wpAnyL_ready (rs := [11]) (by kernel_rfl) (by simp) ?_
      refine (AllReadyL.cons rfl (fun K hK => ?_) AllReadyL.nil)
      go_simp
      go_wp2_with fail
      refine (mode_any _ _ _ _ HT5.out.m2).mono ?_
      rintro e w6 ⟨rfl, rfl⟩
      refine hK.out _ _ ?_ (fun hHeld => ?_)
      · (try dsimp only); exact hHeld
      clear hK K
      refine wpAnyL_take (i := 12) (v := .bool false) rfl (by kernel_rfl) (by kernel_rfl) (by kernel_rfl) (by kernel_rfl) (by kernel_rfl) (fun _ _ _ h => h) (Or.inl ⟨by rfl, ?_⟩) (by assumption) ?_
      · intro wq hSw; (try dsimp only at hSw); first | (go_simp; done) | (go_simp; with_reducible rfl) | with_reducible rfl
      try simp only [Act.put, List.setIfInBounds_toArray, List.set_cons_zero, List.set_cons_succ, List.getElem_toArray, List.getElem_cons_zero, List.getElem_cons_succ]
      refine wpAnyL_ready (rs := [13]) (by kernel_rfl) (by simp) ?_
      refine AllReadyL.last rfl (fun K hK => ?_)
      go_simp
      refine hK.out _ _ ?_
      clear hK K
      refine wpAnyL_done (by kernel_rfl) ?_ _
      clear hHeld
      go_simp
      clear HV4 HT4 HV5
      by_cases hz : m' = 0
      · subst hz
        go_wp2_with (go_at_call 17; refine (mode_any _ _ _ _ HT5.out.m1).mono ?_; rintro e w6 ⟨rfl, rfl⟩)
        refine (boot_yes _ _ _ HT5.out.m1).mono ?_
        rintro e w6 ⟨rfl, rfl⟩
        have HT6 := Lib.hid (HT5.out.one (HT5.out.m1.set 127) (gb_set w5 _ 1 (.int .i64 127)))
        clear HT5
        go_wp2_with fail
        refine (boot_yes _ _ _ HT6.out.m2).mono ?_
        rintro e w7 ⟨rfl, rfl⟩
        have HT7 := Lib.hid (HT6.out.two (HT6.out.m2.set 127) (gb_set (w5.setCell ⟨w.heap.size + 1, 1, none⟩ (.int .i64 127)) _ 1 (.int .i64 127)) (.inr (.inr (.inr rfl))))
        clear HT6
        go_wp2_with fail
        go_roundw
        case rel => exact ⟨j + 1, 127, by omega, by omega, by go_num, HT7.out, by omega⟩
        case measure => simp [intOf]; omega
      · have t0 : (m' == 0) = false := by simpa using hz
        have HNZ := Lib.hid hz
        clear hz
        go_wp2_with (go_at_call 17; refine (mode_any _ _ _ _ HT5.out.m1).mono ?_; rintro e w6 ⟨rfl, rfl⟩)
        go_roundw
        case rel => exact ⟨j + 1, m', by omega, by omega, by go_num, HT5.out, HNZ.out⟩
        case measure => simp [intOf]; omega
    · have hge : ¬ (j : Int) < (N : Int) ∨ ((j : Int) < (N : Int) ∧ ¬ (j : Int) < 40) := by omega
      have HIN := Lib.hid HT.out.in_
      have HE := Lib.hid (fun (P : Prop) (hA : ¬ (j : Int) < (N : Int) → P) (hB : (j : Int) < (N : Int) ∧ ¬ (j : Int) < 40 → P) => hge.elim hA hB)
      clear hlt hge
      refine HE.out _ (fun h1 => ?_) (fun h1 => ?_)
      all_goals
        clear HE
        try obtain ⟨h1, h2⟩ := h1
        go_wp2_with fail
        refine (fork_any _ _ _ _ HT.out.m1).mono ?_
        rintro e w3 ⟨rfl, rfl⟩
        have hba : Below wr.heap.size wr (wr.alloc (.cells #[.int .i64 nd1, .int .i64 md] 61)) := (Below.refl _ _).alloc (Nat.le_refl _) _
        have HT1 := Lib.hid (HT.out.below hba)
        have HF1 := Lib.hid (ma_new wr nd1 md)
        have HVL := Lib.hid HT.out.m2.lt
        clear hba HT
        go_wp2_with fail
        generalize wr.alloc (.cells #[.int .i64 nd1, .int .i64 md] 61) = w3 at *
        generalize wr.heap.size = gv at *
        refine (mode_any _ _ _ _ HT1.out.m1).mono ?_
        rintro e w4 ⟨rfl, rfl⟩
        obtain ⟨o0, o1⟩ := HT1.out.o.cells
        go_wp2_with fail
        refine (obey_any _ _ _ _ _ _ HF1.out HIN.out).mono ?_
        rintro e w5 ⟨rfl, hm5, hg5⟩
        have HT5 := Lib.hid (HT1.out.other hg5 HVL.out)
        clear hm5 hg5 o0 o1 HT1 HF1
        go_wp2_with fail
        refine (live21_any _).mono ?_
        rintro e w6 ⟨rfl, hb6⟩
        have HT6 := Lib.hid (HT5.out.below hb6)
        clear hb6 HT5
        obtain ⟨o0, o1⟩ := HT6.out.o.cells
        have tmd : (md == md) = true := by simp
        go_wp2_with (first
          | (go_at_call 17; refine (mode_any _ _ _ _ HT6.out.m1).mono ?_; rintro e w7 ⟨rfl, rfl⟩)
          | (go_at_call 15; refine (boot_nil _).mono ?_; rintro e w7 ⟨rfl, rfl⟩)
          | (go_at_call 16; refine (obey_nil _ _ _).mono ?_; rintro e w7 ⟨rfl, hb7⟩; have HB7 := Lib.hid (HT6.out.bel.trans (hb7.mono HT6.out.bel.size)); clear hb7)
          | (go_at_call 17; refine (mode_nil _).mono ?_; rintro e w8 ⟨rfl, rfl⟩)
          | (go_at_call 18; refine (node_nil _).mono ?_; rintro e w8 ⟨rfl, rfl⟩)
          | (go_at_call 22; refine (fork_nil _).mono ?_; rintro e w8 ⟨rfl, rfl⟩))
        all_goals first | (go_ret; exact ⟨rfl, HB7.out⟩) | (trace_state; sorry)
end Go.Proofs.Ytnijdcbpllmieaa
