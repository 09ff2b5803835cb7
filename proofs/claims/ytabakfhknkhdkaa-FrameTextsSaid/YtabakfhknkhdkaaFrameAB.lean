/- What the document's Parse answers. -/
import Derived.Test.YtabakfhknkhdkaaFrameAB0
namespace Go.Proofs.Ytabakfhknkhdkaa
open Go.RowKit

theorem FrAt.setOther {w : World} {g : Nat} {id n : Int} {r : Bool} {d : Nat → Int} (h : FrAt w g id r n d) (a : Addr) (v : Value) (hne : g ≠ a.block) : FrAt (w.setCell a v) g id r n d := (Below.heap_setCell w a v g hne).trans h
theorem tx_range (id : Int) (r : Bool) (n : Int) (d : Nat → Int) : ∀ x ∈ txL id r n d, 0 ≤ x ∧ x ≤ 255 := by
  intro x hx
  unfold txL headL tailL at hx
  simp only [List.mem_append, List.mem_singleton] at hx
  rcases hx with (h | rfl) | h
  · exact hexL_range _ _ _ h
  · omega
  · split at h
    · rcases List.mem_cons.1 h with rfl | h
      · omega
      · exact hexL_range _ _ _ h
    · obtain ⟨l, hl, hx⟩ := List.mem_flatten.1 h
      obtain ⟨q, _, rfl⟩ := List.mem_map.1 hl
      exact hexL_range _ _ _ hx
theorem dparse_len (s : ByteArray) (w : World) (hs : s.size ≤ 140737488351232) (hl : s.size < 4 ∨ 20 < s.size) :
    Calls Try.prog 23 #[.string s] w (ParsePost (sB s) w) := by
  have hln := sB_len s
  have hno : ∀ (id : Int) (r : Bool) (n : Int) (d : Nat → Int), Val id r n d → sB s ≠ txL id r n d := fun id r n d hv e => by
    have h8 := chk_len hv.1
    have := congrArg List.length e
    rw [tx_len hv, hln] at this
    split at this <;> omega
  have HNO := Lib.hid hno
  clear hno hln
  obtain ⟨hz, hy0, hy, hb⟩ := parse_start w
  have HB := Lib.hid hb
  have HZ := Lib.hid hz
  have HY0 := Lib.hid hy0
  have HY := Lib.hid hy
  clear hb hz hy hy0
  go_enter Try.func23, Try.ntmps23
  go_wp2_with (first
    | (refine wpList_store_row rfl _ (.tmp 4) (.tmp 6) rfl (w.heap.size + 1) _ rfl rfl _ _ HY0.out info_frame rfl (one_frame 0 0 false (fun _ => 0)) ?_)
    | (refine wpList_load_row rfl _ (.tmp 4) rfl (w.heap.size + 1) rfl _ _ _ _ HY.out Try.underlying24 rfl info_frame ?_)
    | (refine wpList_store_row rfl _ (.tmp 2) (.tmp 15) rfl w.heap.size _ rfl rfl _ _ HZ.out info_frame rfl (one_frame 0 0 false (fun _ => 0)) ?_; have hf5 := HZ.out.row 0 0 false (fun _ => 0); have hbw5 := below_setRow HB.out (Nat.le_refl w.heap.size) #[.int .i64 0, .bool false, .int .i64 0, .int .u8 0, .int .u8 0, .int .u8 0, .int .u8 0, .int .u8 0, .int .u8 0, .int .u8 0, .int .u8 0]))
  all_goals first
    | (exfalso; omega)
    | exact bodyPost_ret (results_cell_tmp_row rfl _ _ w.heap.size _ _ _ _ rfl hf5 Try.underlying24 rfl info_frame) rfl (.inr ⟨HNO.out, rfl, hbw5⟩)
set_option maxHeartbeats 1000000 in
theorem dparse_R (s : ByteArray) (w : World) (hl : s.size = 6) (h4 : (sB s).getD 4 0 = 82) :
    Calls Try.prog 23 #[.string s] w (ParsePost (sB s) w) := by
  have hln := sB_len s
  have e0 := sB_getD s (j := 0) (by omega)
  have e1 := sB_getD s (j := 1) (by omega)
  have e2 := sB_getD s (j := 2) (by omega)
  have e4 := sB_getD s (j := 4) (by omega)
  have e5 := sB_getD s (j := 5) (by omega)
  rw [h4] at e4
  have hkey : ∀ (id : Int) (r : Bool) (n : Int) (d : Nat → Int), Val id r n d → sB s = txL id r n d → chk (cI (sB s)) true (vd ((s[5]'(by omega)).toNat : Int)) (fun _ => 0) = 0 ∧ sB s = txL (cI (sB s)) true (vd ((s[5]'(by omega)).toNat : Int)) (fun _ => 0) := fun id r n d hv e => by
    have hr : r = true := (tx_R hv).1 ⟨by rw [← e]; omega, by rw [← e]; exact h4⟩
    subst hr
    obtain ⟨n1, n2⟩ := tx_n hv
    have i1 := tx_cI hv
    rw [← e] at n1 i1
    rw [e5] at n1
    rw [i1, n1]
    exact ⟨chk_rtr hv.1, e.trans (tx_congr (by have := chk_len hv.1; omega) n2)⟩
  have KEY := Lib.hid hkey
  clear hkey
  obtain ⟨r0, r0'⟩ := vd_range (s[0]'(by omega)).toNat
  obtain ⟨r1, r1'⟩ := vd_range (s[1]'(by omega)).toNat
  obtain ⟨r2, r2'⟩ := vd_range (s[2]'(by omega)).toNat
  have hz4 : 4 < s.size := by omega
  have HLN := Lib.hid hln
  have E0 := Lib.hid e0
  have E1 := Lib.hid e1
  have E2 := Lib.hid e2
  have E5 := Lib.hid e5
  have H4 := Lib.hid h4
  clear e0 e1 e2 e5 h4 hln
  obtain ⟨hz, hy0, hy, hb⟩ := parse_start w
  have HB := Lib.hid hb
  have HZ := Lib.hid hz
  have HY0 := Lib.hid hy0
  have HY := Lib.hid hy
  clear hb hz hy hy0
  go_enter Try.func23, Try.ntmps23
  go_wp2_with (refine wpList_store_row rfl _ (.tmp 4) (.tmp 6) rfl (w.heap.size + 1) _ rfl rfl _ _ HY0.out info_frame rfl (one_frame 0 0 false (fun _ => 0)) ?_)
  clear HY0
  generalize World.setRow _ _ _ = w0 at HB HZ HY ⊢
  have hy : FrAt w0.drew (w.heap.size + 1) 0 false 0 (fun _ => 0) := HY.out
  have hz : FrAt w0.drew w.heap.size 0 false 0 (fun _ => 0) := HZ.out
  have hb : Below w.heap.size w w0.drew := HB.out.drew
  clear HY HZ HB
  have HY := Lib.hid hy
  have HZ := Lib.hid hz
  have HB := Lib.hid hb
  obtain ⟨c0, c1, c2, c3, c4, c5, c6, c7, c8, c9, c10⟩ := hy.cells
  have f0 := hy.frozen 0
  have f1 := hy.frozen 1
  have f2 := hy.frozen 2
  clear hy hz hb
  refine wp_region_any (by kernel_rfl) ?_
  change wpAny _ _ _ _ _ _ _ (World.drew _)
  refine wpAny_take (i := 0) (v := ?_) rfl (by kernel_rfl) (by kernel_rfl) (by kernel_rfl) (fun _ _ _ h => h) (Or.inl ⟨by rfl, ?_⟩) ?_
  rotate_left
  · intro wq; first | (go_simp; done) | (go_simp; with_reducible rfl) | with_reducible rfl
  refine wpAny_take (i := 4) (v := ?_) rfl (by kernel_rfl) (by kernel_rfl) (by kernel_rfl) (fun _ _ _ h => h) (Or.inl ⟨by rfl, ?_⟩) ?_
  rotate_left
  · intro wq; first | (go_simp; done) | (go_simp; with_reducible rfl) | with_reducible rfl
  refine wpAny_take (i := 9) (v := ?_) rfl (by kernel_rfl) (by kernel_rfl) (by kernel_rfl) (fun _ _ _ h => h) (Or.inl ⟨by rfl, ?_⟩) ?_
  rotate_left
  · intro wq; first | (go_simp; done) | (go_simp; with_reducible rfl) | with_reducible rfl
  refine wpAny_take (i := 1) (v := ?_) rfl (by kernel_rfl) (by kernel_rfl) (by kernel_rfl) (fun _ _ _ h => h) (Or.inl ⟨by rfl, ?_⟩) ?_
  rotate_left
  · intro wq; first | (go_simp; done) | (go_simp; with_reducible rfl) | with_reducible rfl
  refine wpAny_take (i := 5) (v := ?_) rfl (by kernel_rfl) (by kernel_rfl) (by kernel_rfl) (fun _ _ _ h => h) (Or.inl ⟨by rfl, ?_⟩) ?_
  rotate_left
  · intro wq; first | (go_simp; done) | (go_simp; with_reducible rfl) | with_reducible rfl
  refine wpAny_take (i := 10) (v := ?_) rfl (by kernel_rfl) (by kernel_rfl) (by kernel_rfl) (fun _ _ _ h => h) (Or.inl ⟨by rfl, ?_⟩) ?_
  rotate_left
  · intro wq; first | (go_simp; done) | (go_simp; with_reducible rfl) | with_reducible rfl
  refine wpAny_ready (rs := [2]) (by kernel_rfl) (by simp) ?_
  refine AllReady.cons rfl (fun K hK => ?_) AllReady.nil
  go_simp
  go_wp2_with (go_at_call 32; refine (value_u _ _).mono ?_; rintro e w1 ⟨rfl, hb1⟩; have hy1 := FrAt.below HY.out hb1 HY.out.lt; have hz1 := FrAt.below HZ.out hb1 HZ.out.lt; have hbw := HB.out.trans (hb1.mono HB.out.size); clear HY HZ HB c0 c1 c2 c3 c4 c5 c6 c7 c8 c9 c10 f0 f1 f2; have HY := Lib.hid hy1; have HZ := Lib.hid hz1; have HB := Lib.hid hbw; obtain ⟨c0, c1, c2, c3, c4, c5, c6, c7, c8, c9, c10⟩ := hy1.cells; have f0 := hy1.frozen 0; have f1 := hy1.frozen 1; have f2 := hy1.frozen 2; clear hy1 hz1 hbw hb1)
  first | (refine hK _ _ ?_; clear hK K) | skip
  refine wpAny_take (i := 3) (v := ?_) rfl (by kernel_rfl) (by kernel_rfl) (by kernel_rfl) (fun _ _ _ h => h) (Or.inl ⟨by rfl, ?_⟩) ?_
  rotate_left
  · intro wq; first | (go_simp; done) | (go_simp; with_reducible rfl) | with_reducible rfl
  refine wpAny_ready (rs := [6]) (by kernel_rfl) (by simp) ?_
  refine AllReady.cons rfl (fun K hK => ?_) AllReady.nil
  go_simp
  go_wp2_with (go_at_call 32; refine (value_u _ _).mono ?_; rintro e w1 ⟨rfl, hb1⟩; have hy1 := FrAt.below HY.out hb1 HY.out.lt; have hz1 := FrAt.below HZ.out hb1 HZ.out.lt; have hbw := HB.out.trans (hb1.mono HB.out.size); clear HY HZ HB c0 c1 c2 c3 c4 c5 c6 c7 c8 c9 c10 f0 f1 f2; have HY := Lib.hid hy1; have HZ := Lib.hid hz1; have HB := Lib.hid hbw; obtain ⟨c0, c1, c2, c3, c4, c5, c6, c7, c8, c9, c10⟩ := hy1.cells; have f0 := hy1.frozen 0; have f1 := hy1.frozen 1; have f2 := hy1.frozen 2; clear hy1 hz1 hbw hb1)
  first | (refine hK _ _ ?_; clear hK K) | skip
  refine wpAny_take (i := 7) (v := ?_) rfl (by kernel_rfl) (by kernel_rfl) (by kernel_rfl) (fun _ _ _ h => h) (Or.inl ⟨by rfl, ?_⟩) ?_
  rotate_left
  · intro wq; first | (go_simp; done) | (go_simp; with_reducible rfl) | with_reducible rfl
  refine wpAny_take (i := 8) (v := ?_) rfl (by kernel_rfl) (by kernel_rfl) (by kernel_rfl) (fun _ _ _ h => h) (Or.inl ⟨by rfl, ?_⟩) ?_
  rotate_left
  · intro wq; first | (go_simp; done) | (go_simp; with_reducible rfl) | with_reducible rfl
  refine wpAny_ready (rs := [11]) (by kernel_rfl) (by simp) ?_
  refine AllReady.cons rfl (fun K hK => ?_) AllReady.nil
  go_simp
  go_wp2_with (go_at_call 32; refine (value_u _ _).mono ?_; rintro e w1 ⟨rfl, hb1⟩; have hy1 := FrAt.below HY.out hb1 HY.out.lt; have hz1 := FrAt.below HZ.out hb1 HZ.out.lt; have hbw := HB.out.trans (hb1.mono HB.out.size); clear HY HZ HB c0 c1 c2 c3 c4 c5 c6 c7 c8 c9 c10 f0 f1 f2; have HY := Lib.hid hy1; have HZ := Lib.hid hz1; have HB := Lib.hid hbw; obtain ⟨c0, c1, c2, c3, c4, c5, c6, c7, c8, c9, c10⟩ := hy1.cells; have f0 := hy1.frozen 0; have f1 := hy1.frozen 1; have f2 := hy1.frozen 2; clear hy1 hz1 hbw hb1)
  first | (refine hK _ _ ?_; clear hK K) | skip
  refine wpAny_take (i := 12) (v := ?_) rfl (by kernel_rfl) (by kernel_rfl) (by kernel_rfl) (fun _ _ _ h => h) (Or.inl ⟨by rfl, ?_⟩) ?_
  rotate_left
  · intro wq; first | (go_simp; done) | (go_simp; with_reducible rfl) | with_reducible rfl
  refine wpAny_take (i := 13) (v := ?_) rfl (by kernel_rfl) (by kernel_rfl) (by kernel_rfl) (fun _ _ _ h => h) (Or.inl ⟨by rfl, ?_⟩) ?_
  rotate_left
  · intro wq; first | (go_simp; done) | (go_simp; with_reducible rfl) | with_reducible rfl
  refine wpAny_ready (rs := [14]) (by kernel_rfl) (by simp) ?_
  refine AllReady.cons rfl (fun K hK => ?_) AllReady.nil
  go_simp
  first | (refine hK _ _ ?_; clear hK K) | skip
  refine wpAny_done (by kernel_rfl) ?_ _
  rename_i K hK wa wb
  clear wa wb
  have hI : IntKind.i64.wrap (IntKind.i64.wrap (IntKind.i64.wrap ((256 : Int) * vd ((s[0]'(by omega)).toNat : Int)) + IntKind.i64.wrap ((16 : Int) * vd ((s[1]'(by omega)).toNat : Int))) + vd ((s[2]'(by omega)).toNat : Int)) = cI (sB s) := by
    have a := IntWalk.i64_in ((256 : Int) * vd ((s[0]'(by omega)).toNat : Int)) (by omega)
    have b := IntWalk.i64_in ((16 : Int) * vd ((s[1]'(by omega)).toNat : Int)) (by omega)
    unfold cI
    have c := IntWalk.i64_in ((256 : Int) * vd ((s[0]'(by omega)).toNat : Int) + (16 : Int) * vd ((s[1]'(by omega)).toNat : Int)) (by omega)
    have d := IntWalk.i64_in ((256 : Int) * vd ((s[0]'(by omega)).toNat : Int) + (16 : Int) * vd ((s[1]'(by omega)).toNat : Int) + vd ((s[2]'(by omega)).toNat : Int)) (by omega)
    rw [a, b, c, d, E0.out, E1.out, E2.out]
  rw [hI]
  clear hI r0 r0' r1 r1' r2 r2'
  have hy := HY.out.setId (cI (sB s))
  have hz : FrAt (w1.setCell ⟨w.heap.size + 1, 0, none⟩ (.int .i64 (cI (sB s)))) w.heap.size 0 false 0 (fun _ => 0) := (Below.heap_setCell w1 _ _ _ (by simp)).trans HZ.out
  have hb := HB.out.setCell (p := ⟨w.heap.size + 1, 0, none⟩) (Nat.le_succ _) (.int .i64 (cI (sB s)))
  refine hK _ _ ?_
  clear hK K
  generalize w1.setCell _ _ = w3 at hy hz hb ⊢
  clear HY HZ HB c0 c1 c2 c3 c4 c5 c6 c7 c8 c9 c10 f0 f1 f2
  have HY := Lib.hid hy
  have HZ := Lib.hid hz
  have HB := Lib.hid hb
  obtain ⟨c0, c1, c2, c3, c4, c5, c6, c7, c8, c9, c10⟩ := hy.cells
  have f0 := hy.frozen 0
  have f1 := hy.frozen 1
  have f2 := hy.frozen 2
  clear hy hz hb
  by_cases hc : chk (cI (sB s)) true (vd ((s[5]'(by omega)).toNat : Int)) (fun _ => 0) = 0
  · obtain ⟨S, hS⟩ : ∃ S : ByteArray, strOfNums (txL (cI (sB s)) true (vd ((s[5]'(by omega)).toNat : Int)) (fun _ => 0)) = S := ⟨_, rfl⟩
    have htx := sB_str (tx_range (cI (sB s)) true (vd ((s[5]'(by omega)).toNat : Int)) (fun _ => 0))
    rw [hS] at htx
    have hv : Val (cI (sB s)) true (vd ((s[5]'(by omega)).toNat : Int)) (fun _ => 0) := ⟨hc, fun _ _ => by simp⟩
    by_cases hq : S = s
    · rw [hq] at hS htx
      have heq : (s.toList == s.toList) = true := beq_self_eq_true _
      have HTX := Lib.hid htx
      have HV := Lib.hid hv
      clear KEY htx hv
      go_wp2_with (first | (go_at_call 32; refine (value_u _ _).mono ?_; rintro e w4 ⟨rfl, hb1⟩; have hy4 := HY.out.setRtr true; have hz4 := HZ.out.setOther ⟨w.heap.size + 1, 1, none⟩ (.bool true) (Nat.ne_of_lt (Nat.lt_succ_self _)); have hb4 := HB.out.setCell (p := ⟨w.heap.size + 1, 1, none⟩) (Nat.le_succ _) (.bool true); have hy1 := FrAt.below hy4 hb1 hy4.lt; have hz1 := FrAt.below hz4 hb1 hz4.lt; have hbw := hb4.trans (hb1.mono hb4.size); clear HY HZ HB c0 c1 c2 c3 c4 c5 c6 c7 c8 c9 c10 f0 f1 f2 hy4 hz4 hb4; have HY := Lib.hid hy1; have HZ := Lib.hid hz1; have HB := Lib.hid hbw; obtain ⟨c0, c1, c2, c3, c4, c5, c6, c7, c8, c9, c10⟩ := hy1.cells; have f0 := hy1.frozen 0; have f1 := hy1.frozen 1; have f2 := hy1.frozen 2; clear hy1 hz1 hbw hb1) | (go_at_call 11; refine (dcheck_any (cI (sB s)) (vd ((s[5]'(by omega)).toNat : Int)) true (fun _ => 0) _).mono ?_; rintro e w5 ⟨rfl, hb1⟩; rw [hc]; have hy4 := HY.out.setLen (vd ((s[5]'(by omega)).toNat : Int)); have hz4 := HZ.out.setOther ⟨w.heap.size + 1, 2, none⟩ (.int .i64 (vd ((s[5]'(by omega)).toNat : Int))) (Nat.ne_of_lt (Nat.lt_succ_self _)); have hb4 := HB.out.setCell (p := ⟨w.heap.size + 1, 2, none⟩) (Nat.le_succ _) (.int .i64 (vd ((s[5]'(by omega)).toNat : Int))); have hy1 := FrAt.below hy4 hb1 (FrAt.lt hy4); have hz1 := FrAt.below hz4 hb1 (FrAt.lt hz4); have hbw := hb4.trans (hb1.mono hb4.size); clear HY HZ HB c0 c1 c2 c3 c4 c5 c6 c7 c8 c9 c10 f0 f1 f2; have HY := Lib.hid hy1; have HZ := Lib.hid hz1; have HB := Lib.hid hbw; obtain ⟨c0, c1, c2, c3, c4, c5, c6, c7, c8, c9, c10⟩ := hy1.cells; have f0 := hy1.frozen 0; have f1 := hy1.frozen 1; have f2 := hy1.frozen 2; clear hy1 hz1 hbw hb1; clear hy4 hz4 hb4) | (go_at_call 22; refine (dtext_rtr (cI (sB s)) (vd ((s[5]'(by omega)).toNat : Int)) (fun _ => 0) _ HV.out).mono ?_; rintro e w6 ⟨rfl, hb1⟩; rw [hS]; have hy1 := FrAt.below HY.out hb1 (FrAt.lt HY.out); have hz1 := FrAt.below HZ.out hb1 (FrAt.lt HZ.out); have hbw := HB.out.trans (hb1.mono HB.out.size); clear HY HZ HB c0 c1 c2 c3 c4 c5 c6 c7 c8 c9 c10 f0 f1 f2; have HY := Lib.hid hy1; have HZ := Lib.hid hz1; have HB := Lib.hid hbw; obtain ⟨c0, c1, c2, c3, c4, c5, c6, c7, c8, c9, c10⟩ := hy1.cells; have f0 := hy1.frozen 0; have f1 := hy1.frozen 1; have f2 := hy1.frozen 2; clear hy1 hz1 hbw hb1) | (refine wpList_load_row rfl _ (.tmp 4) rfl (w.heap.size + 1) rfl _ _ _ _ HY.out Try.underlying24 rfl info_frame ?_) | (refine wpList_store_row rfl _ (.tmp 2) (.tmp 82) rfl w.heap.size _ rfl rfl _ _ HZ.out info_frame rfl (one_frame (cI (sB s)) (vd ((s[5]'(by omega)).toNat : Int)) true (fun _ => 0)) ?_; have hf5 := HZ.out.row (cI (sB s)) (vd ((s[5]'(by omega)).toNat : Int)) true (fun _ => 0); have hbw5 := below_setRow HB.out (Nat.le_refl w.heap.size) #[.int .i64 (cI (sB s)), .bool true, .int .i64 (vd ((s[5]'(by omega)).toNat : Int)), .int .u8 ((fun _ => 0) 0), .int .u8 ((fun _ => 0) 1), .int .u8 ((fun _ => 0) 2), .int .u8 ((fun _ => 0) 3), .int .u8 ((fun _ => 0) 4), .int .u8 ((fun _ => 0) 5), .int .u8 ((fun _ => 0) 6), .int .u8 ((fun _ => 0) 7)]))
      all_goals first | (exfalso; omega) | exact bodyPost_ret (results_cell_tmp_row rfl _ _ w.heap.size _ _ _ _ rfl hf5 Try.underlying24 rfl info_frame) rfl (.inl ⟨_, _, _, _, HV.out, HTX.out, rfl, hbw5⟩) | (go_show; sorry)
    · have hno : ∀ (id : Int) (r : Bool) (n : Int) (d : Nat → Int), Val id r n d → sB s ≠ txL id r n d := fun id r n d hv e => by
        have k := (KEY.out id r n d hv e).2
        rw [← k, str_sB] at hS
        exact hq hS.symm
      have heq : (S.toList == s.toList) = false := strL_ne (fun e => hq (by rw [← str_sB S, e, str_sB]))
      have HNO := Lib.hid hno
      have HV := Lib.hid hv
      clear KEY htx hno hv
      go_wp2_with (first | (go_at_call 32; refine (value_u _ _).mono ?_; rintro e w4 ⟨rfl, hb1⟩; have hy4 := HY.out.setRtr true; have hz4 := HZ.out.setOther ⟨w.heap.size + 1, 1, none⟩ (.bool true) (Nat.ne_of_lt (Nat.lt_succ_self _)); have hb4 := HB.out.setCell (p := ⟨w.heap.size + 1, 1, none⟩) (Nat.le_succ _) (.bool true); have hy1 := FrAt.below hy4 hb1 hy4.lt; have hz1 := FrAt.below hz4 hb1 hz4.lt; have hbw := hb4.trans (hb1.mono hb4.size); clear HY HZ HB c0 c1 c2 c3 c4 c5 c6 c7 c8 c9 c10 f0 f1 f2 hy4 hz4 hb4; have HY := Lib.hid hy1; have HZ := Lib.hid hz1; have HB := Lib.hid hbw; obtain ⟨c0, c1, c2, c3, c4, c5, c6, c7, c8, c9, c10⟩ := hy1.cells; have f0 := hy1.frozen 0; have f1 := hy1.frozen 1; have f2 := hy1.frozen 2; clear hy1 hz1 hbw hb1) | (go_at_call 11; refine (dcheck_any (cI (sB s)) (vd ((s[5]'(by omega)).toNat : Int)) true (fun _ => 0) _).mono ?_; rintro e w5 ⟨rfl, hb1⟩; rw [hc]; have hy4 := HY.out.setLen (vd ((s[5]'(by omega)).toNat : Int)); have hz4 := HZ.out.setOther ⟨w.heap.size + 1, 2, none⟩ (.int .i64 (vd ((s[5]'(by omega)).toNat : Int))) (Nat.ne_of_lt (Nat.lt_succ_self _)); have hb4 := HB.out.setCell (p := ⟨w.heap.size + 1, 2, none⟩) (Nat.le_succ _) (.int .i64 (vd ((s[5]'(by omega)).toNat : Int))); have hy1 := FrAt.below hy4 hb1 (FrAt.lt hy4); have hz1 := FrAt.below hz4 hb1 (FrAt.lt hz4); have hbw := hb4.trans (hb1.mono hb4.size); clear HY HZ HB c0 c1 c2 c3 c4 c5 c6 c7 c8 c9 c10 f0 f1 f2; have HY := Lib.hid hy1; have HZ := Lib.hid hz1; have HB := Lib.hid hbw; obtain ⟨c0, c1, c2, c3, c4, c5, c6, c7, c8, c9, c10⟩ := hy1.cells; have f0 := hy1.frozen 0; have f1 := hy1.frozen 1; have f2 := hy1.frozen 2; clear hy1 hz1 hbw hb1; clear hy4 hz4 hb4) | (go_at_call 22; refine (dtext_rtr (cI (sB s)) (vd ((s[5]'(by omega)).toNat : Int)) (fun _ => 0) _ HV.out).mono ?_; rintro e w6 ⟨rfl, hb1⟩; rw [hS]; have hy1 := FrAt.below HY.out hb1 (FrAt.lt HY.out); have hz1 := FrAt.below HZ.out hb1 (FrAt.lt HZ.out); have hbw := HB.out.trans (hb1.mono HB.out.size); clear HY HZ HB c0 c1 c2 c3 c4 c5 c6 c7 c8 c9 c10 f0 f1 f2; have HY := Lib.hid hy1; have HZ := Lib.hid hz1; have HB := Lib.hid hbw; obtain ⟨c0, c1, c2, c3, c4, c5, c6, c7, c8, c9, c10⟩ := hy1.cells; have f0 := hy1.frozen 0; have f1 := hy1.frozen 1; have f2 := hy1.frozen 2; clear hy1 hz1 hbw hb1) | (refine wpList_load_row rfl _ (.tmp 4) rfl (w.heap.size + 1) rfl _ _ _ _ HY.out Try.underlying24 rfl info_frame ?_) | (refine wpList_store_row rfl _ (.tmp 2) (.tmp 81) rfl w.heap.size _ rfl rfl _ _ HZ.out info_frame rfl (one_frame 0 0 false (fun _ => 0)) ?_; have hf5 := HZ.out.row 0 0 false (fun _ => 0); have hbw5 := below_setRow HB.out (Nat.le_refl w.heap.size) #[.int .i64 0, .bool false, .int .i64 0, .int .u8 0, .int .u8 0, .int .u8 0, .int .u8 0, .int .u8 0, .int .u8 0, .int .u8 0, .int .u8 0]))
      all_goals first | (exfalso; omega) | exact bodyPost_ret (results_cell_tmp_row rfl _ _ w.heap.size _ _ _ _ rfl hf5 Try.underlying24 rfl info_frame) rfl (.inr ⟨HNO.out, rfl, hbw5⟩) | (go_show; sorry)
  · have hno : ∀ (id : Int) (r : Bool) (n : Int) (d : Nat → Int), Val id r n d → sB s ≠ txL id r n d := fun id r n d hv e => hc (KEY.out id r n d hv e).1
    have HNO := Lib.hid hno
    clear KEY hno
    obtain ⟨c, hcc⟩ : ∃ c : Int, chk (cI (sB s)) true (vd ((s[5]'(by omega)).toNat : Int)) (fun _ => 0) = c := ⟨_, rfl⟩
    rw [hcc] at hc
    go_wp2_with (first | (go_at_call 32; refine (value_u _ _).mono ?_; rintro e w4 ⟨rfl, hb1⟩; have hy4 := HY.out.setRtr true; have hz4 := HZ.out.setOther ⟨w.heap.size + 1, 1, none⟩ (.bool true) (Nat.ne_of_lt (Nat.lt_succ_self _)); have hb4 := HB.out.setCell (p := ⟨w.heap.size + 1, 1, none⟩) (Nat.le_succ _) (.bool true); have hy1 := FrAt.below hy4 hb1 hy4.lt; have hz1 := FrAt.below hz4 hb1 hz4.lt; have hbw := hb4.trans (hb1.mono hb4.size); clear HY HZ HB c0 c1 c2 c3 c4 c5 c6 c7 c8 c9 c10 f0 f1 f2 hy4 hz4 hb4; have HY := Lib.hid hy1; have HZ := Lib.hid hz1; have HB := Lib.hid hbw; obtain ⟨c0, c1, c2, c3, c4, c5, c6, c7, c8, c9, c10⟩ := hy1.cells; have f0 := hy1.frozen 0; have f1 := hy1.frozen 1; have f2 := hy1.frozen 2; clear hy1 hz1 hbw hb1) | (go_at_call 11; refine (dcheck_any (cI (sB s)) (vd ((s[5]'(by omega)).toNat : Int)) true (fun _ => 0) _).mono ?_; rintro e w5 ⟨rfl, hb1⟩; rw [hcc]; have hy4 := HY.out.setLen (vd ((s[5]'(by omega)).toNat : Int)); have hz4 := HZ.out.setOther ⟨w.heap.size + 1, 2, none⟩ (.int .i64 (vd ((s[5]'(by omega)).toNat : Int))) (Nat.ne_of_lt (Nat.lt_succ_self _)); have hb4 := HB.out.setCell (p := ⟨w.heap.size + 1, 2, none⟩) (Nat.le_succ _) (.int .i64 (vd ((s[5]'(by omega)).toNat : Int))); have hy1 := FrAt.below hy4 hb1 (FrAt.lt hy4); have hz1 := FrAt.below hz4 hb1 (FrAt.lt hz4); have hbw := hb4.trans (hb1.mono hb4.size); clear HY HZ HB c0 c1 c2 c3 c4 c5 c6 c7 c8 c9 c10 f0 f1 f2; have HY := Lib.hid hy1; have HZ := Lib.hid hz1; have HB := Lib.hid hbw; obtain ⟨c0, c1, c2, c3, c4, c5, c6, c7, c8, c9, c10⟩ := hy1.cells; have f0 := hy1.frozen 0; have f1 := hy1.frozen 1; have f2 := hy1.frozen 2; clear hy1 hz1 hbw hb1; clear hy4 hz4 hb4) | (refine wpList_load_row rfl _ (.tmp 4) rfl (w.heap.size + 1) rfl _ _ _ _ HY.out Try.underlying24 rfl info_frame ?_) | (refine wpList_store_row rfl _ (.tmp 2) (.tmp 81) rfl w.heap.size _ rfl rfl _ _ HZ.out info_frame rfl (one_frame 0 0 false (fun _ => 0)) ?_; have hf5 := HZ.out.row 0 0 false (fun _ => 0); have hbw5 := below_setRow HB.out (Nat.le_refl w.heap.size) #[.int .i64 0, .bool false, .int .i64 0, .int .u8 0, .int .u8 0, .int .u8 0, .int .u8 0, .int .u8 0, .int .u8 0, .int .u8 0, .int .u8 0]))
    all_goals first | (exfalso; omega) | exact bodyPost_ret (results_cell_tmp_row rfl _ _ w.heap.size _ _ _ _ rfl hf5 Try.underlying24 rfl info_frame) rfl (.inr ⟨HNO.out, rfl, hbw5⟩) | (go_show; sorry)
end Go.Proofs.Ytabakfhknkhdkaa
