/- What the document's Parse answers to the text of bytes. -/
import Derived.Test.YtabakfhknkhdkaaFrameAB
namespace Go.Proofs.Ytabakfhknkhdkaa
open Go.RowKit

set_option maxHeartbeats 1000000 in
theorem dparse_Dn (s : ByteArray) (k : Nat) (w : World) (hl4 : 4 ≤ s.size) (hl20 : s.size ≤ 20) (hk : (s.size - 4) / 2 = k) (hx6 : ¬ s.size = 6) :
    Calls Try.prog 23 #[.string s] w (ParsePost (sB s) w) := by
  have hx : ¬ (s.size = 6 ∧ (sB s).getD 4 0 = 82) := fun h => hx6 h.1
  have e0 := sB_getD s (j := 0) (by omega)
  have e1 := sB_getD s (j := 1) (by omega)
  have e2 := sB_getD s (j := 2) (by omega)
  have hln := sB_len s
  have hkey : ∀ (id : Int) (r : Bool) (n : Int) (d : Nat → Int), Val id r n d → sB s = txL id r n d → chk (cI (sB s)) false (k : Int) (cD (sB s)) = 0 ∧ sB s = txL (cI (sB s)) false (k : Int) (cD (sB s)) := fun id r n d hv e => by
    have hr : r = false := by
      cases r with
      | false => rfl
      | true =>
        have h := (tx_R hv).2 rfl
        rw [← e] at h
        exact absurd ⟨by omega, h.2⟩ hx
    subst hr
    obtain ⟨n1, n2⟩ := tx_D hv
    have i1 := tx_cI hv
    have hl8 := chk_len hv.1
    rw [← e] at n1 i1
    have n2' : ∀ j, j < 8 → d j = cD (sB s) j := fun j hj => by rw [e]; exact n2 j hj
    have hnk : (k : Int) = n := by omega
    rw [i1, hnk]
    exact ⟨(chk_congr n2').symm.trans hv.1, e.trans (tx_congr (by omega) n2')⟩
  have KEY := Lib.hid hkey
  clear hkey
  have HLN := Lib.hid hln
  clear hln
  obtain ⟨r0, r0'⟩ := vd_range (s[0]'(by omega)).toNat
  obtain ⟨r1, r1'⟩ := vd_range (s[1]'(by omega)).toNat
  obtain ⟨r2, r2'⟩ := vd_range (s[2]'(by omega)).toNat
  have E0 := Lib.hid e0
  have E1 := Lib.hid e1
  have E2 := Lib.hid e2
  clear e0 e1 e2 hx
  have hz0 : 0 < s.size := by omega
  have hz1 : (1 : Int) < (s.size : Int) := by omega
  have hz2 : (2 : Int) < (s.size : Int) := by omega
  obtain ⟨hz, hy0, hy, hb⟩ := parse_start w
  have HB := Lib.hid hb
  have HZ := Lib.hid hz
  have HY0 := Lib.hid hy0
  have HY := Lib.hid hy
  clear hb hz hy hy0
  go_enter Try.func23, Try.ntmps23
  go_wp2_with (refine wpList_store_row rfl _ (.tmp 4) (.tmp 6) rfl (w.heap.size + 1) _ rfl rfl _ _ HY0.out info_frame rfl (one_frame 0 0 false (fun _ => 0)) ?_)
  clear HY0
  generalize World.setRow _ _ _ = w0 at HB HZ HY ⊢
  have hy : FrAt w0.drew (w.heap.size + 1) 0 false 0 (fun _ => 0) := HY.out
  have hz : FrAt w0.drew w.heap.size 0 false 0 (fun _ => 0) := HZ.out
  have hb : Below w.heap.size w w0.drew := HB.out.drew
  clear HY HZ HB
  have HY := Lib.hid hy
  have HZ := Lib.hid hz
  have HB := Lib.hid hb
  obtain ⟨c0, c1, c2, c3, c4, c5, c6, c7, c8, c9, c10⟩ := hy.cells
  have f0 := hy.frozen 0
  have f1 := hy.frozen 1
  have f2 := hy.frozen 2
  clear hy hz hb
  refine wp_region_any (by kernel_rfl) ?_
  change wpAny _ _ _ _ _ _ _ (World.drew _)
  refine wpAny_take (i := 0) (v := ?_) rfl (by kernel_rfl) (by kernel_rfl) (by kernel_rfl) (fun _ _ _ h => h) (Or.inl ⟨by rfl, ?_⟩) ?_
  rotate_left
  · intro wq; first | (go_simp; done) | (go_simp; with_reducible rfl) | with_reducible rfl
  refine wpAny_take (i := 4) (v := ?_) rfl (by kernel_rfl) (by kernel_rfl) (by kernel_rfl) (fun _ _ _ h => h) (Or.inl ⟨by rfl, ?_⟩) ?_
  rotate_left
  · intro wq; first | (go_simp; done) | (go_simp; with_reducible rfl) | with_reducible rfl
  refine wpAny_take (i := 9) (v := ?_) rfl (by kernel_rfl) (by kernel_rfl) (by kernel_rfl) (fun _ _ _ h => h) (Or.inl ⟨by rfl, ?_⟩) ?_
  rotate_left
  · intro wq; first | (go_simp; done) | (go_simp; with_reducible rfl) | with_reducible rfl
  refine wpAny_take (i := 1) (v := ?_) rfl (by kernel_rfl) (by kernel_rfl) (by kernel_rfl) (fun _ _ _ h => h) (Or.inl ⟨by rfl, ?_⟩) ?_
  rotate_left
  · intro wq; first | (go_simp; done) | (go_simp; with_reducible rfl) | with_reducible rfl
  refine wpAny_take (i := 5) (v := ?_) rfl (by kernel_rfl) (by kernel_rfl) (by kernel_rfl) (fun _ _ _ h => h) (Or.inl ⟨by rfl, ?_⟩) ?_
  rotate_left
  · intro wq; first | (go_simp; done) | (go_simp; with_reducible rfl) | with_reducible rfl
  refine wpAny_take (i := 10) (v := ?_) rfl (by kernel_rfl) (by kernel_rfl) (by kernel_rfl) (fun _ _ _ h => h) (Or.inl ⟨by rfl, ?_⟩) ?_
  rotate_left
  · intro wq; first | (go_simp; done) | (go_simp; with_reducible rfl) | with_reducible rfl
  refine wpAny_ready (rs := [2]) (by kernel_rfl) (by simp) ?_
  refine AllReady.cons rfl (fun K hK => ?_) AllReady.nil
  go_simp
  go_wp2_with (go_at_call 32; refine (value_u _ _).mono ?_; rintro e w1 ⟨rfl, hb1⟩; have hy1 := FrAt.below HY.out hb1 HY.out.lt; have hz1 := FrAt.below HZ.out hb1 HZ.out.lt; have hbw := HB.out.trans (hb1.mono HB.out.size); clear HY HZ HB c0 c1 c2 c3 c4 c5 c6 c7 c8 c9 c10 f0 f1 f2; have HY := Lib.hid hy1; have HZ := Lib.hid hz1; have HB := Lib.hid hbw; obtain ⟨c0, c1, c2, c3, c4, c5, c6, c7, c8, c9, c10⟩ := hy1.cells; have f0 := hy1.frozen 0; have f1 := hy1.frozen 1; have f2 := hy1.frozen 2; clear hy1 hz1 hbw hb1)
  first | (refine hK _ _ ?_; clear hK K) | skip
  refine wpAny_take (i := 3) (v := ?_) rfl (by kernel_rfl) (by kernel_rfl) (by kernel_rfl) (fun _ _ _ h => h) (Or.inl ⟨by rfl, ?_⟩) ?_
  rotate_left
  · intro wq; first | (go_simp; done) | (go_simp; with_reducible rfl) | with_reducible rfl
  refine wpAny_ready (rs := [6]) (by kernel_rfl) (by simp) ?_
  refine AllReady.cons rfl (fun K hK => ?_) AllReady.nil
  go_simp
  go_wp2_with (go_at_call 32; refine (value_u _ _).mono ?_; rintro e w1 ⟨rfl, hb1⟩; have hy1 := FrAt.below HY.out hb1 HY.out.lt; have hz1 := FrAt.below HZ.out hb1 HZ.out.lt; have hbw := HB.out.trans (hb1.mono HB.out.size); clear HY HZ HB c0 c1 c2 c3 c4 c5 c6 c7 c8 c9 c10 f0 f1 f2; have HY := Lib.hid hy1; have HZ := Lib.hid hz1; have HB := Lib.hid hbw; obtain ⟨c0, c1, c2, c3, c4, c5, c6, c7, c8, c9, c10⟩ := hy1.cells; have f0 := hy1.frozen 0; have f1 := hy1.frozen 1; have f2 := hy1.frozen 2; clear hy1 hz1 hbw hb1)
  first | (refine hK _ _ ?_; clear hK K) | skip
  refine wpAny_take (i := 7) (v := ?_) rfl (by kernel_rfl) (by kernel_rfl) (by kernel_rfl) (fun _ _ _ h => h) (Or.inl ⟨by rfl, ?_⟩) ?_
  rotate_left
  · intro wq; first | (go_simp; done) | (go_simp; with_reducible rfl) | with_reducible rfl
  refine wpAny_take (i := 8) (v := ?_) rfl (by kernel_rfl) (by kernel_rfl) (by kernel_rfl) (fun _ _ _ h => h) (Or.inl ⟨by rfl, ?_⟩) ?_
  rotate_left
  · intro wq; first | (go_simp; done) | (go_simp; with_reducible rfl) | with_reducible rfl
  refine wpAny_ready (rs := [11]) (by kernel_rfl) (by simp) ?_
  refine AllReady.cons rfl (fun K hK => ?_) AllReady.nil
  go_simp
  go_wp2_with (go_at_call 32; refine (value_u _ _).mono ?_; rintro e w1 ⟨rfl, hb1⟩; have hy1 := FrAt.below HY.out hb1 HY.out.lt; have hz1 := FrAt.below HZ.out hb1 HZ.out.lt; have hbw := HB.out.trans (hb1.mono HB.out.size); clear HY HZ HB c0 c1 c2 c3 c4 c5 c6 c7 c8 c9 c10 f0 f1 f2; have HY := Lib.hid hy1; have HZ := Lib.hid hz1; have HB := Lib.hid hbw; obtain ⟨c0, c1, c2, c3, c4, c5, c6, c7, c8, c9, c10⟩ := hy1.cells; have f0 := hy1.frozen 0; have f1 := hy1.frozen 1; have f2 := hy1.frozen 2; clear hy1 hz1 hbw hb1)
  first | (refine hK _ _ ?_; clear hK K) | skip
  refine wpAny_take (i := 12) (v := ?_) rfl (by kernel_rfl) (by kernel_rfl) (by kernel_rfl) (fun _ _ _ h => h) (Or.inl ⟨by rfl, ?_⟩) ?_
  rotate_left
  · intro wq; first | (go_simp; done) | (go_simp; with_reducible rfl) | with_reducible rfl
  refine wpAny_take (i := 13) (v := ?_) rfl (by kernel_rfl) (by kernel_rfl) (by kernel_rfl) (fun _ _ _ h => h) (Or.inl ⟨by rfl, ?_⟩) ?_
  rotate_left
  · intro wq; first | (go_simp; done) | (go_simp; with_reducible rfl) | with_reducible rfl
  refine wpAny_ready (rs := [14]) (by kernel_rfl) (by simp) ?_
  refine AllReady.cons rfl (fun K hK => ?_) AllReady.nil
  go_simp
  first | (refine hK _ _ ?_; clear hK K) | skip
  refine wpAny_done (by kernel_rfl) ?_ _
  rename_i K hK wa wb
  clear wa wb
  have hI : IntKind.i64.wrap (IntKind.i64.wrap (IntKind.i64.wrap ((256 : Int) * vd ((s[0]'(by omega)).toNat : Int)) + IntKind.i64.wrap ((16 : Int) * vd ((s[1]'(by omega)).toNat : Int))) + vd ((s[2]'(by omega)).toNat : Int)) = cI (sB s) := by
    have a := IntWalk.i64_in ((256 : Int) * vd ((s[0]'(by omega)).toNat : Int)) (by omega)
    have b := IntWalk.i64_in ((16 : Int) * vd ((s[1]'(by omega)).toNat : Int)) (by omega)
    unfold cI
    have c := IntWalk.i64_in ((256 : Int) * vd ((s[0]'(by omega)).toNat : Int) + (16 : Int) * vd ((s[1]'(by omega)).toNat : Int)) (by omega)
    have d := IntWalk.i64_in ((256 : Int) * vd ((s[0]'(by omega)).toNat : Int) + (16 : Int) * vd ((s[1]'(by omega)).toNat : Int) + vd ((s[2]'(by omega)).toNat : Int)) (by omega)
    rw [a, b, c, d, E0.out, E1.out, E2.out]
  rw [hI]
  clear hI r0 r0' r1 r1' r2 r2'
  have hy := HY.out.setId (cI (sB s))
  have hz : FrAt (w1.setCell ⟨w.heap.size + 1, 0, none⟩ (.int .i64 (cI (sB s)))) w.heap.size 0 false 0 (fun _ => 0) := (Below.heap_setCell w1 _ _ _ (by simp)).trans HZ.out
  have hb := HB.out.setCell (p := ⟨w.heap.size + 1, 0, none⟩) (Nat.le_succ _) (.int .i64 (cI (sB s)))
  refine hK _ _ ?_
  clear hK K
  generalize w1.setCell _ _ = w3 at hy hz hb ⊢
  clear HY HZ HB c0 c1 c2 c3 c4 c5 c6 c7 c8 c9 c10 f0 f1 f2
  have HY := Lib.hid hy
  have HZ := Lib.hid hz
  have HB := Lib.hid hb
  obtain ⟨c0, c1, c2, c3, c4, c5, c6, c7, c8, c9, c10⟩ := hy.cells
  have f0 := hy.frozen 0
  have f1 := hy.frozen 1
  have f2 := hy.frozen 2
  clear hy hz hb
  have hkw : ((s.size : Int) - 4) / 2 = (k : Int) := by omega
  go_wp2_with fail
  rw [hkw]
  have hy := (HY.out.setLen (k : Int)).congr (d' := fun q => if q < 0 then cD (sB s) q else 0) (fun q _ => (if_neg (Nat.not_lt_zero q)).symm)
  have hz := HZ.out.setOther ⟨w.heap.size + 1, 2, none⟩ (.int .i64 (k : Int)) (Nat.ne_of_lt (Nat.lt_succ_self _))
  have hb := HB.out.setCell (p := ⟨w.heap.size + 1, 2, none⟩) (Nat.le_succ _) (.int .i64 (k : Int))
  have HS := Lib.hid (And.intro hy (And.intro hz hb))
  clear hy hz hb HY HZ HB c0 c1 c2 c3 c4 c5 c6 c7 c8 c9 c10 f0 f1 f2
  go_loopw [5] (fun x wr => ∃ j : Nat, j ≤ k ∧ x = .int .i64 j ∧ Hid (FrAt wr (w.heap.size + 1) (cI (sB s)) false (k : Int) (fun q => if q < j then cD (sB s) q else 0) ∧ FrAt wr w.heap.size 0 false 0 (fun _ => 0) ∧ Below w.heap.size w wr)) (fun x _ => k - (intOf x).toNat)
  case atStart => exact ⟨0, Nat.zero_le _, rfl, HS⟩
  case round =>
    obtain ⟨j, hj, rfl, HR⟩ := hrel
    clear HS
    by_cases hlt : j < k
    · have hj8 : (j : Int) < 8 := by omega
      have hj0 : (0 : Int) ≤ (j : Int) := by omega
      have hA : (4 + 2 * (j : Int)) < (s.size : Int) := by omega
      have hA0 : 0 ≤ (4 + 2 * (j : Int)) := by omega
      have hB : (5 + 2 * (j : Int)) < (s.size : Int) := by omega
      have hB0 : 0 ≤ (5 + 2 * (j : Int)) := by omega
      have v1 : IntKind.i64.wrap (2 * (j : Int)) = 2 * (j : Int) := IntWalk.i64_in _ (by omega)
      have v2 : IntKind.i64.wrap (4 + 2 * (j : Int)) = 4 + 2 * (j : Int) := IntWalk.i64_in _ (by omega)
      have v3 : IntKind.i64.wrap (5 + 2 * (j : Int)) = 5 + 2 * (j : Int) := IntWalk.i64_in _ (by omega)
      obtain ⟨c0, c1, c2, c3, c4, c5, c6, c7, c8, c9, c10⟩ := HR.out.1.cells
      go_wp2_with fail
      clear c0 c1 c2 c3 c4 c5 c6 c7 c8 c9 c10
      have hy : FrAt wr.drew (w.heap.size + 1) (cI (sB s)) false (k : Int) (fun q => if q < j then cD (sB s) q else 0) := HR.out.1
      have hz : FrAt wr.drew w.heap.size 0 false 0 (fun _ => 0) := HR.out.2.1
      have hb : Below w.heap.size w wr.drew := HR.out.2.2.drew
      have hcb := hy.byte (i := j) (by omega)
      have hfz := hy.frozen (3 + j)
      have HY := Lib.hid hy
      have HZ := Lib.hid hz
      have HB := Lib.hid hb
      clear hy hz hb HR
      refine wp_region_any (by kernel_rfl) ?_
      change wpAny _ _ _ _ _ _ _ (World.drew _)
      refine wpAny_take (i := 0) (v := ?_) rfl (by kernel_rfl) (by kernel_rfl) (by kernel_rfl) (fun _ _ _ h => h) (Or.inl ⟨by rfl, ?_⟩) ?_
      rotate_left
      · intro wq; first | (go_simp; done) | (go_simp; with_reducible rfl) | with_reducible rfl
      refine wpAny_take (i := 1) (v := ?_) rfl (by kernel_rfl) (by kernel_rfl) (by kernel_rfl) (fun _ _ _ h => h) (Or.inl ⟨by rfl, ?_⟩) ?_
      rotate_left
      · intro wq; first | (go_simp; done) | (go_simp; with_reducible rfl) | with_reducible rfl
      refine wpAny_take (i := 2) (v := ?_) rfl (by kernel_rfl) (by kernel_rfl) (by kernel_rfl) (fun _ _ _ h => h) (Or.inl ⟨by rfl, ?_⟩) ?_
      rotate_left
      · intro wq; first | (go_simp; done) | (go_simp; with_reducible rfl) | with_reducible rfl
      refine wpAny_take (i := 8) (v := ?_) rfl (by kernel_rfl) (by kernel_rfl) (by kernel_rfl) (fun _ _ _ h => h) (Or.inl ⟨by rfl, ?_⟩) ?_
      rotate_left
      · intro wq; first | (go_simp; done) | (go_simp; with_reducible rfl) | with_reducible rfl
      refine wpAny_take (i := 9) (v := ?_) rfl (by kernel_rfl) (by kernel_rfl) (by kernel_rfl) (fun _ _ _ h => h) (Or.inl ⟨by rfl, ?_⟩) ?_
      rotate_left
      · intro wq; first | (go_simp; done) | (go_simp; with_reducible rfl) | with_reducible rfl
      refine wpAny_take (i := 3) (v := ?_) rfl (by kernel_rfl) (by kernel_rfl) (by kernel_rfl) (fun _ _ _ h => h) (Or.inl ⟨by rfl, ?_⟩) ?_
      rotate_left
      · intro wq; first | (go_simp; done) | (go_simp; with_reducible rfl) | with_reducible rfl
      refine wpAny_take (i := 4) (v := ?_) rfl (by kernel_rfl) (by kernel_rfl) (by kernel_rfl) (fun _ _ _ h => h) (Or.inl ⟨by rfl, ?_⟩) ?_
      rotate_left
      · intro wq; first | (go_simp; done) | (go_simp; with_reducible rfl) | with_reducible rfl
      refine wpAny_take (i := 5) (v := ?_) rfl (by kernel_rfl) (by kernel_rfl) (by kernel_rfl) (fun _ _ _ h => h) (Or.inl ⟨by rfl, ?_⟩) ?_
      rotate_left
      · intro wq; first | (go_simp; done) | (go_simp; with_reducible rfl) | with_reducible rfl
      refine wpAny_take (i := 10) (v := ?_) rfl (by kernel_rfl) (by kernel_rfl) (by kernel_rfl) (fun _ _ _ h => h) (Or.inl ⟨by rfl, ?_⟩) ?_
      rotate_left
      · intro wq; first | (go_simp; done) | (go_simp; with_reducible rfl) | with_reducible rfl
      refine wpAny_take (i := 11) (v := ?_) rfl (by kernel_rfl) (by kernel_rfl) (by kernel_rfl) (fun _ _ _ h => h) (Or.inl ⟨by rfl, ?_⟩) ?_
      rotate_left
      · intro wq; first | (go_simp; done) | (go_simp; with_reducible rfl) | with_reducible rfl
      refine wpAny_take (i := 12) (v := ?_) rfl (by kernel_rfl) (by kernel_rfl) (by kernel_rfl) (fun _ _ _ h => h) (Or.inl ⟨by rfl, ?_⟩) ?_
      rotate_left
      · intro wq; first | (go_simp; done) | (go_simp; with_reducible rfl) | with_reducible rfl
      refine wpAny_take (i := 16) (v := ?_) rfl (by kernel_rfl) (by kernel_rfl) (by kernel_rfl) (fun _ _ _ h => h) (Or.inl ⟨by rfl, ?_⟩) ?_
      rotate_left
      · intro wq; first | (go_simp; done) | (go_simp; with_reducible rfl) | with_reducible rfl
      refine wpAny_ready (rs := [6]) (by kernel_rfl) (by simp) ?_
      refine AllReady.cons rfl (fun K hK => ?_) AllReady.nil
      go_simp
      go_wp2_with (go_at_call 32; refine (value_u _ _).mono ?_; rintro e w4 ⟨rfl, hb1⟩; have hy1 := FrAt.below HY.out hb1 (FrAt.lt HY.out); have hz1 := FrAt.below HZ.out hb1 (FrAt.lt HZ.out); have hbw := HB.out.trans (hb1.mono HB.out.size); clear HY HZ HB hcb hfz; have HY := Lib.hid hy1; have HZ := Lib.hid hz1; have HB := Lib.hid hbw; have hcb := hy1.byte (i := j) (by omega); have hfz := hy1.frozen (3 + j); clear hy1 hz1 hbw hb1)
      first | (refine hK _ _ ?_; clear hK K) | skip
      refine wpAny_take (i := 7) (v := ?_) rfl (by kernel_rfl) (by kernel_rfl) (by kernel_rfl) (fun _ _ _ h => h) (Or.inl ⟨by rfl, ?_⟩) ?_
      rotate_left
      · intro wq; first | (go_simp; done) | (go_simp; with_reducible rfl) | with_reducible rfl
      refine wpAny_ready (rs := [13]) (by kernel_rfl) (by simp) ?_
      refine AllReady.cons rfl (fun K hK => ?_) AllReady.nil
      go_simp
      go_wp2_with (go_at_call 32; refine (value_u _ _).mono ?_; rintro e w4 ⟨rfl, hb1⟩; have hy1 := FrAt.below HY.out hb1 (FrAt.lt HY.out); have hz1 := FrAt.below HZ.out hb1 (FrAt.lt HZ.out); have hbw := HB.out.trans (hb1.mono HB.out.size); clear HY HZ HB hcb hfz; have HY := Lib.hid hy1; have HZ := Lib.hid hz1; have HB := Lib.hid hbw; have hcb := hy1.byte (i := j) (by omega); have hfz := hy1.frozen (3 + j); clear hy1 hz1 hbw hb1)
      first | (refine hK _ _ ?_; clear hK K) | skip
      refine wpAny_take (i := 14) (v := ?_) rfl (by kernel_rfl) (by kernel_rfl) (by kernel_rfl) (fun _ _ _ h => h) (Or.inl ⟨by rfl, ?_⟩) ?_
      rotate_left
      · intro wq; first | (go_simp; done) | (go_simp; with_reducible rfl) | with_reducible rfl
      refine wpAny_take (i := 15) (v := ?_) rfl (by kernel_rfl) (by kernel_rfl) (by kernel_rfl) (fun _ _ _ h => h) (Or.inl ⟨by rfl, ?_⟩) ?_
      rotate_left
      · intro wq; first | (go_simp; done) | (go_simp; with_reducible rfl) | with_reducible rfl
      refine wpAny_take (i := 17) (v := ?_) rfl (by kernel_rfl) (by kernel_rfl) (by kernel_rfl) (fun _ _ _ h => h) (Or.inl ⟨by rfl, ?_⟩) ?_
      rotate_left
      · intro wq; first | (go_simp; done) | (go_simp; with_reducible rfl) | with_reducible rfl
      refine wpAny_ready (rs := [18]) (by kernel_rfl) (by simp) ?_
      refine AllReady.cons rfl (fun K hK => ?_) AllReady.nil
      go_simp
      first | (refine hK _ _ ?_; clear hK K) | skip
      refine wpAny_done (by kernel_rfl) ?_ _

      have hX : IntKind.u8.wrap (IntKind.i64.wrap (IntKind.i64.wrap (16 * vd ((s[(4 + 2 * (j : Int)).toNat]'(by omega)).toNat : Int)) + vd ((s[(5 + 2 * (j : Int)).toNat]'(by omega)).toNat : Int))) = cD (sB s) j := by
        have g1 := sB_getD s (j := (4 + 2 * (j : Int)).toNat) (by omega)
        have g2 := sB_getD s (j := (5 + 2 * (j : Int)).toNat) (by omega)
        rw [← g1, ← g2, show (4 + 2 * (j : Int)).toNat = 4 + 2 * j by omega, show (5 + 2 * (j : Int)).toNat = 5 + 2 * j by omega]
        unfold cD
        rw [if_pos (by rw [sB_len]; omega)]
        obtain ⟨p0, p1⟩ := vd_range ((sB s).getD (4 + 2 * j) 0)
        obtain ⟨q0, q1⟩ := vd_range ((sB s).getD (5 + 2 * j) 0)
        generalize vd ((sB s).getD (4 + 2 * j) 0) = P at p0 p1 ⊢
        generalize vd ((sB s).getD (5 + 2 * j) 0) = Q at q0 q1 ⊢
        rw [IntWalk.i64_in (16 * P) (by omega), IntWalk.i64_in (16 * P + Q) (by omega), IntKind.wrap_u8]
      rw [hX]
      have hy := (HY.out.set (i := j) (by omega) (cD (sB s) j)).congr (d' := fun q => if q < j + 1 then cD (sB s) q else 0) (fun q _ => by
        show (if q = j then cD (sB s) j else if q < j then cD (sB s) q else 0) = if q < j + 1 then cD (sB s) q else 0
        by_cases h1 : q = j
        · subst h1; rw [if_pos rfl, if_pos (by omega)]
        · by_cases h2 : q < j
          · rw [if_neg h1, if_pos h2, if_pos (by omega)]
          · rw [if_neg h1, if_neg h2, if_neg (by omega)])
      have hz := HZ.out.setOther ⟨w.heap.size + 1, 3 + j, none⟩ (.int .u8 (cD (sB s) j)) (Nat.ne_of_lt (Nat.lt_succ_self _))
      have hb := HB.out.setCell (p := ⟨w.heap.size + 1, 3 + j, none⟩) (Nat.le_succ _) (.int .u8 (cD (sB s) j))
      have HS := Lib.hid (And.intro hy (And.intro hz hb))
      clear hy hz hb HY HZ HB hcb hfz hX
      generalize w4.setCell _ _ = w7 at HS ⊢
      go_wp2_with fail
      go_roundw
      case rel => exact ⟨j + 1, by omega, by go_num, HS⟩
      case measure => simp [intOf]; omega
    · obtain rfl : k = j := by omega
      have hyk := HR.out.1.congr (d' := cD (sB s)) (fun q _ => by
        show (if q < k then cD (sB s) q else 0) = cD (sB s) q
        by_cases h1 : q < k
        · rw [if_pos h1]
        · rw [if_neg h1]; unfold cD; rw [if_neg (by rw [sB_len]; omega)])
      have HY := Lib.hid hyk
      have HZ := Lib.hid HR.out.2.1
      have HB := Lib.hid HR.out.2.2
      obtain ⟨c0, c1, c2, c3, c4, c5, c6, c7, c8, c9, c10⟩ := hyk.cells
      have f0 := hyk.frozen 0
      have f1 := hyk.frozen 1
      have f2 := hyk.frozen 2
      clear hyk HR hlt hj
      by_cases hc : chk (cI (sB s)) false ((k : Int)) (cD (sB s)) = 0
      · obtain ⟨S, hS⟩ : ∃ S : ByteArray, strOfNums (txL (cI (sB s)) false ((k : Int)) (cD (sB s))) = S := ⟨_, rfl⟩
        have htx := sB_str (tx_range (cI (sB s)) false ((k : Int)) (cD (sB s)))
        rw [hS] at htx
        have hv : Val (cI (sB s)) false ((k : Int)) (cD (sB s)) := ⟨hc, fun q _ => cD_range (sB s) q⟩
        by_cases hq : S = s
        · rw [hq] at hS htx
          have heq : (s.toList == s.toList) = true := beq_self_eq_true _
          have HTX := Lib.hid htx
          have HV := Lib.hid hv
          clear KEY htx hv
          go_wp2_with (first | (go_at_call 11; refine (dcheck_any (cI (sB s)) ((k : Int)) false (cD (sB s)) _).mono ?_; rintro e w5 ⟨rfl, hb1⟩; rw [hc]; have hy1 := FrAt.below HY.out hb1 (FrAt.lt HY.out); have hz1 := FrAt.below HZ.out hb1 (FrAt.lt HZ.out); have hbw := HB.out.trans (hb1.mono HB.out.size); clear HY HZ HB c0 c1 c2 c3 c4 c5 c6 c7 c8 c9 c10 f0 f1 f2; have HY := Lib.hid hy1; have HZ := Lib.hid hz1; have HB := Lib.hid hbw; obtain ⟨c0, c1, c2, c3, c4, c5, c6, c7, c8, c9, c10⟩ := hy1.cells; have f0 := hy1.frozen 0; have f1 := hy1.frozen 1; have f2 := hy1.frozen 2; clear hy1 hz1 hbw hb1) | (go_at_call 22; refine (dtext_dat (cI (sB s)) k (cD (sB s)) _ HV.out).mono ?_; rintro e w6 ⟨rfl, hb1⟩; rw [hS]; have hy1 := FrAt.below HY.out hb1 (FrAt.lt HY.out); have hz1 := FrAt.below HZ.out hb1 (FrAt.lt HZ.out); have hbw := HB.out.trans (hb1.mono HB.out.size); clear HY HZ HB c0 c1 c2 c3 c4 c5 c6 c7 c8 c9 c10 f0 f1 f2; have HY := Lib.hid hy1; have HZ := Lib.hid hz1; have HB := Lib.hid hbw; obtain ⟨c0, c1, c2, c3, c4, c5, c6, c7, c8, c9, c10⟩ := hy1.cells; have f0 := hy1.frozen 0; have f1 := hy1.frozen 1; have f2 := hy1.frozen 2; clear hy1 hz1 hbw hb1) | (refine wpList_load_row rfl _ (.tmp 4) rfl (w.heap.size + 1) rfl _ _ _ _ HY.out Try.underlying24 rfl info_frame ?_) | (refine wpList_store_row rfl _ (.tmp 2) (.tmp 82) rfl w.heap.size _ rfl rfl _ _ HZ.out info_frame rfl (one_frame (cI (sB s)) ((k : Int)) false (cD (sB s))) ?_; have hf5 := HZ.out.row (cI (sB s)) ((k : Int)) false (cD (sB s)); have hbw5 := below_setRow HB.out (Nat.le_refl w.heap.size) #[.int .i64 (cI (sB s)), .bool false, .int .i64 ((k : Int)), .int .u8 ((cD (sB s)) 0), .int .u8 ((cD (sB s)) 1), .int .u8 ((cD (sB s)) 2), .int .u8 ((cD (sB s)) 3), .int .u8 ((cD (sB s)) 4), .int .u8 ((cD (sB s)) 5), .int .u8 ((cD (sB s)) 6), .int .u8 ((cD (sB s)) 7)]))
          all_goals first | (exfalso; omega) | exact bodyPost_ret (results_cell_tmp_row rfl _ _ w.heap.size _ _ _ _ rfl hf5 Try.underlying24 rfl info_frame) rfl (.inl ⟨_, _, _, _, HV.out, HTX.out, rfl, hbw5⟩) | (go_show; sorry)
        · have hno : ∀ (id : Int) (r : Bool) (n : Int) (d : Nat → Int), Val id r n d → sB s ≠ txL id r n d := fun id r n d hv e => by
            have k := (KEY.out id r n d hv e).2
            rw [← k, str_sB] at hS
            exact hq hS.symm
          have heq : (S.toList == s.toList) = false := strL_ne (fun e => hq (by rw [← str_sB S, e, str_sB]))
          have HNO := Lib.hid hno
          have HV := Lib.hid hv
          clear KEY htx hno hv
          go_wp2_with (first | (go_at_call 11; refine (dcheck_any (cI (sB s)) ((k : Int)) false (cD (sB s)) _).mono ?_; rintro e w5 ⟨rfl, hb1⟩; rw [hc]; have hy1 := FrAt.below HY.out hb1 (FrAt.lt HY.out); have hz1 := FrAt.below HZ.out hb1 (FrAt.lt HZ.out); have hbw := HB.out.trans (hb1.mono HB.out.size); clear HY HZ HB c0 c1 c2 c3 c4 c5 c6 c7 c8 c9 c10 f0 f1 f2; have HY := Lib.hid hy1; have HZ := Lib.hid hz1; have HB := Lib.hid hbw; obtain ⟨c0, c1, c2, c3, c4, c5, c6, c7, c8, c9, c10⟩ := hy1.cells; have f0 := hy1.frozen 0; have f1 := hy1.frozen 1; have f2 := hy1.frozen 2; clear hy1 hz1 hbw hb1) | (go_at_call 22; refine (dtext_dat (cI (sB s)) k (cD (sB s)) _ HV.out).mono ?_; rintro e w6 ⟨rfl, hb1⟩; rw [hS]; have hy1 := FrAt.below HY.out hb1 (FrAt.lt HY.out); have hz1 := FrAt.below HZ.out hb1 (FrAt.lt HZ.out); have hbw := HB.out.trans (hb1.mono HB.out.size); clear HY HZ HB c0 c1 c2 c3 c4 c5 c6 c7 c8 c9 c10 f0 f1 f2; have HY := Lib.hid hy1; have HZ := Lib.hid hz1; have HB := Lib.hid hbw; obtain ⟨c0, c1, c2, c3, c4, c5, c6, c7, c8, c9, c10⟩ := hy1.cells; have f0 := hy1.frozen 0; have f1 := hy1.frozen 1; have f2 := hy1.frozen 2; clear hy1 hz1 hbw hb1) | (refine wpList_load_row rfl _ (.tmp 4) rfl (w.heap.size + 1) rfl _ _ _ _ HY.out Try.underlying24 rfl info_frame ?_) | (refine wpList_store_row rfl _ (.tmp 2) (.tmp 81) rfl w.heap.size _ rfl rfl _ _ HZ.out info_frame rfl (one_frame 0 0 false (fun _ => 0)) ?_; have hf5 := HZ.out.row 0 0 false (fun _ => 0); have hbw5 := below_setRow HB.out (Nat.le_refl w.heap.size) #[.int .i64 0, .bool false, .int .i64 0, .int .u8 0, .int .u8 0, .int .u8 0, .int .u8 0, .int .u8 0, .int .u8 0, .int .u8 0, .int .u8 0]))
          all_goals first | (exfalso; omega) | exact bodyPost_ret (results_cell_tmp_row rfl _ _ w.heap.size _ _ _ _ rfl hf5 Try.underlying24 rfl info_frame) rfl (.inr ⟨HNO.out, rfl, hbw5⟩) | (go_show; sorry)
      · have hno : ∀ (id : Int) (r : Bool) (n : Int) (d : Nat → Int), Val id r n d → sB s ≠ txL id r n d := fun id r n d hv e => hc (KEY.out id r n d hv e).1
        have HNO := Lib.hid hno
        clear KEY hno
        obtain ⟨c, hcc⟩ : ∃ c : Int, chk (cI (sB s)) false ((k : Int)) (cD (sB s)) = c := ⟨_, rfl⟩
        rw [hcc] at hc
        go_wp2_with (first | (go_at_call 11; refine (dcheck_any (cI (sB s)) ((k : Int)) false (cD (sB s)) _).mono ?_; rintro e w5 ⟨rfl, hb1⟩; rw [hcc]; have hy1 := FrAt.below HY.out hb1 (FrAt.lt HY.out); have hz1 := FrAt.below HZ.out hb1 (FrAt.lt HZ.out); have hbw := HB.out.trans (hb1.mono HB.out.size); clear HY HZ HB c0 c1 c2 c3 c4 c5 c6 c7 c8 c9 c10 f0 f1 f2; have HY := Lib.hid hy1; have HZ := Lib.hid hz1; have HB := Lib.hid hbw; obtain ⟨c0, c1, c2, c3, c4, c5, c6, c7, c8, c9, c10⟩ := hy1.cells; have f0 := hy1.frozen 0; have f1 := hy1.frozen 1; have f2 := hy1.frozen 2; clear hy1 hz1 hbw hb1) | (refine wpList_load_row rfl _ (.tmp 4) rfl (w.heap.size + 1) rfl _ _ _ _ HY.out Try.underlying24 rfl info_frame ?_) | (refine wpList_store_row rfl _ (.tmp 2) (.tmp 81) rfl w.heap.size _ rfl rfl _ _ HZ.out info_frame rfl (one_frame 0 0 false (fun _ => 0)) ?_; have hf5 := HZ.out.row 0 0 false (fun _ => 0); have hbw5 := below_setRow HB.out (Nat.le_refl w.heap.size) #[.int .i64 0, .bool false, .int .i64 0, .int .u8 0, .int .u8 0, .int .u8 0, .int .u8 0, .int .u8 0, .int .u8 0, .int .u8 0, .int .u8 0]))
        all_goals first | (exfalso; omega) | exact bodyPost_ret (results_cell_tmp_row rfl _ _ w.heap.size _ _ _ _ rfl hf5 Try.underlying24 rfl info_frame) rfl (.inr ⟨HNO.out, rfl, hbw5⟩) | (go_show; sorry)
end Go.Proofs.Ytabakfhknkhdkaa
