/- What the document's Encode answers. -/
import Derived.Deep.CutBlock
import Derived.Test.YtoamgdcjmkkmfaaKme0
import Derived.Test.YtoamgdcjmkkmfaaKmd
import Derived.Test.YtoamgdcjmkkmfaaKmc
import Derived.Test.YtoamgdcjmkkmfaaKma
import Derived.Test.YtoamgdcjmkkmfaaKmc2
import Derived.Test.YtoamgdcjmkkmfaaKmc4
import Derived.Test.YtoamgdcjmkkmfaaKmc6
namespace Go.Proofs.Ytoamgdcjmkkmfaa
open Go.RowKit
set_option linter.unusedSimpArgs false
set_option linter.unusedVariables false
set_option maxHeartbeats 4000000
set_option maxRecDepth 100000 in
theorem ren_10fp (ki ks sz d0 d1 d2 d3 d4 d5 d6 : Int) (hki : 0 ≤ ki ∧ ki ≤ 65535) (hks : 0 ≤ ks ∧ ks ≤ 255) (hsz : -1 ≤ sz ∧ sz ≤ 4294967295) (hz : 0 < sz) (hdu : dataU 0 (dL d0 d1 d2 d3 d4 d5 d6) = true) (w : World) : Calls Try.prog 14 #[.agg #[.int .i64 10, .int .i64 ki, .int .i64 ks, .bool false, .bool false, .bool false, .bool false, .int .i64 sz, .int .i64 0, .int .u8 d0, .int .u8 d1, .int .u8 d2, .int .u8 d3, .int .u8 d4, .int .u8 d5, .int .u8 d6, .int .i64 0, .int .i64 0, .int .i64 0, .int .i64 0, .int .i64 0]] w fun e w' => e = .returned (.tuple #[.agg (lnA (setL (putR 4 (putR 1 (putR 2 [] 1 ki) 3 ks) 4 sz) 0 (headE 10 false false false false sz 0 0))), .int .i64 0]) ∧ Below w.heap.size w w' := by
  have hrw := fun w => rowx_any 10 (by omega) w
  have hrg := fun w => rng_any 10 ki ks false false false false sz 0 d0 d1 d2 d3 d4 d5 d6 0 0 0 0 0 (by omega) w
  have hun := fun w => unu_10 ki ks false false false false sz 0 d0 d1 d2 d3 d4 d5 d6 0 0 0 0 0 w
  have hhd := fun w => rhd_10f ki ks sz d0 d1 d2 d3 d4 d5 d6  hki hks hsz w
  have e1 : rngE 10 ki ks false sz 0 0 0 0 0 0 = true := by simp [rngE, keyB, inB]; omega
  have e2 : unuE 10 ki ks false false false false sz 0 d0 d1 d2 d3 d4 d5 d6 0 0 0 0 0 = true := by unfold unuE; rw [hdu]; simp [flatU, keyC, fastC]
  rw [e1] at hrg
  rw [e2] at hun
  have hmx : ∃ MA : Array Value, #[.int .i64 10, .int .i64 ki, .int .i64 ks, .bool false, .bool false, .bool false, .bool false, .int .i64 sz, .int .i64 0, .int .u8 d0, .int .u8 d1, .int .u8 d2, .int .u8 d3, .int .u8 d4, .int .u8 d5, .int .u8 d6, .int .i64 0, .int .i64 0, .int .i64 0, .int .i64 0, .int .i64 0] = MA := ⟨_, rfl⟩
  have hrx : ∃ RX : Array Value, rowX 10 = RX := ⟨_, rfl⟩
  obtain ⟨MA, hMA⟩ := hmx
  obtain ⟨RX, hRX⟩ := hrx
  have hro : RX.all (·.oneCell') = true := by rw [← hRX]; exact one_rowx _ _ _ _ _ _ _ _ _ _ _
  have hrs : (Try.prog.info? 41).map (·.size) = some RX.size := by rw [← hRX]; exact info_rowx
  have hrz : (11 : Nat) = RX.size := by rw [← hRX]; rfl
  have him : (Try.prog.info? 30).map (·.size) = some MA.size := by rw [← hMA]; exact info_msg
  have hd7 : dL d0 d1 d2 d3 d4 d5 d6 = dL d0 d1 d2 d3 d4 d5 d6 := rfl
  rw [hRX] at hrw hrg hun hhd
  rw [hMA] at hrg hun hhd
  have hhr : 0 ≤ headE 10 false false false false sz 0 0 ∧ headE 10 false false false false sz 0 0 ≤ 255 := head_rng (m := ⟨10, ki, ks, false, false, false, false, sz, 0, d0, d1, d2, d3, d4, d5, d6, 0, 0, 0, 0, 0⟩) (by simp [canM, canE, inB]) (by simp)
  generalize headE 10 false false false false sz 0 0 = hx at *
  have HM := Lib.hid hMA
  have HR : Hid (#[.int .i64 64, .bool true, .bool false, .bool false, .bool true, .bool false, .bool true, .bool false, .bool false, .bool false, .bool false] = RX) := Lib.hid hRX
  have HRW := Lib.hid hrw
  have HRG := Lib.hid hrg
  have HUN := Lib.hid hun
  have HHD := Lib.hid hhd
  have HRO := Lib.hid hro
  have HIR := Lib.hid hrs
  have HRZ := Lib.hid hrz
  have HIM := Lib.hid him
  clear hrw hrg hun hhd hro hrs hrz him hdu e1 e2 hd7
  go_enter Try.func14, Try.ntmps14
  rw [hMA]
  have hm0 : MA[0]? = some (.int .i64 10) := by rw [← hMA]; rfl
  clear hMA hRX
  go_wp2_with fail
  generalize hx0 : ((w.alloc (.cells MA 30)).alloc (.cells #[.int .u8 0, .int .u8 0, .int .u8 0, .int .u8 0, .int .u8 0, .int .u8 0, .int .u8 0, .int .u8 0] 23)).alloc (.cells #[.int .u8 0, .int .u8 0, .int .u8 0, .int .u8 0, .int .u8 0, .int .u8 0, .int .u8 0, .int .u8 0] 23) = x0 at *
  have HQ := Lib.hid (eb_start hx0)
  clear hx0
  refine (HRW.out x0).mono ?_
  rintro e w1 ⟨rfl, hb1⟩
  have HS0 := Lib.hid (HQ.out.row hb1)
  have HS := Lib.hid (HS0.out.told RX)
  clear hb1 HQ hm0
  go_upto_region 3 with (refine wpList_store_row rfl 41 (.tmp 5) (.tmp 13) rfl w1.heap.size RX rfl rfl _ _ HS0.out.hr HIR.out HRZ.out HRO.out ?_)
  clear HS0
  generalize (w1.alloc (.cells #[.int .i64 0, .bool false, .bool false, .bool false, .bool false, .bool false, .bool false, .bool false, .bool false, .bool false, .bool false] 41)).setRow w1.heap.size RX = x1 at *
  generalize w1.heap.size = gr at *
  go_wp2_with (first
      | (refine wpList_load_row rfl 30 (.tmp 1) rfl w.heap.size rfl _ _ _ _ HS.out.hm Try.underlying30 rfl HIM.out ?_)
      | (refine wpList_load_row rfl 41 (.tmp 5) rfl gr rfl _ _ _ _ HS.out.hr Try.underlying41 rfl HIR.out ?_))
  refine (HRG.out _).mono ?_
  rintro e y1 ⟨rfl, hy⟩
  have HS1 := Lib.hid (HS.out.below hy)
  clear HS hy
  have HS := HS1
  clear HS1
  go_wp2_with (first
      | (refine wpList_load_row rfl 30 (.tmp 1) rfl w.heap.size rfl _ _ _ _ HS.out.hm Try.underlying30 rfl HIM.out ?_)
      | (refine wpList_load_row rfl 41 (.tmp 5) rfl gr rfl _ _ _ _ HS.out.hr Try.underlying41 rfl HIR.out ?_))
  refine (HUN.out _).mono ?_
  rintro e y2 ⟨rfl, hy⟩
  have HS1 := Lib.hid (HS.out.below hy)
  clear HS hy
  have HS := HS1
  clear HS1
  obtain ⟨⟨m0, m1, m2, m8, m7, m16, m17, m18, m19, m20⟩, ⟨r0, r1, r2, r3, r4, r5, r6, r7, r8, r9, r10⟩⟩ := es_cells HM HR HS.out
  go_upto_region 10 with fail
  have HCE : Hid (∀ y, ES w gr MA RX [] y → y.cell? ⟨w.heap.size, 1, none⟩ = some (.int .i64 ki) ∧ y.cell? ⟨w.heap.size, 2, none⟩ = some (.int .i64 ks)) := Lib.hid (fun y h => ⟨(h.msg 1).trans (by rw [← HM.out]; rfl), (h.msg 2).trans (by rw [← HM.out]; rfl)⟩)
  clear m0 m1 m2 m8 m7 m16 m17 m18 m19 m20 r0 r1 r2 r3 r4 r5 r6 r7 r8 r9 r10
  refine wp_region_last (fun y => ES w gr MA RX [] y) 9 (by kernel_rfl) (HS.out.below ((Below.refl _ _).drew)) (fun hHeld => ?_)
  have HSd := Lib.hid hHeld
  clear HS
  refine wpAnyL_take (i := 0) (v := .agg (lnA [])) rfl (by kernel_rfl) (by kernel_rfl) (by kernel_rfl) (by kernel_rfl) (by kernel_rfl) (fun _ _ _ h => h) (Or.inl ⟨by rfl, ?_⟩) (by assumption) ?_
  · intro wq hSw
    exact run_load_row (x := .tmp 4) rfl rfl hSw.hl rfl Try.underlying23 info_line
  try simp only [Act.put, List.setIfInBounds_toArray, List.set_cons_zero, List.set_cons_succ]
  refine wpAnyL_take (i := 1) (v := ?_) rfl (by kernel_rfl) (by kernel_rfl) (by kernel_rfl) (by kernel_rfl) (by kernel_rfl) (fun _ _ _ h => h) (Or.inl ⟨by rfl, ?_⟩) (by assumption) ?_
  rotate_left
  · intro wq hSw; (try dsimp only at hSw); obtain ⟨g1, g2⟩ := HCE.out wq hSw; first | (go_simp; done) | (go_simp; with_reducible rfl) | with_reducible rfl
  try simp only [Act.put, List.setIfInBounds_toArray, List.set_cons_zero, List.set_cons_succ]
  refine wpAnyL_take (i := 2) (v := ?_) rfl (by kernel_rfl) (by kernel_rfl) (by kernel_rfl) (by kernel_rfl) (by kernel_rfl) (fun _ _ _ h => h) (Or.inl ⟨by rfl, ?_⟩) (by assumption) ?_
  rotate_left
  · intro wq hSw; (try dsimp only at hSw); obtain ⟨g1, g2⟩ := HCE.out wq hSw; first | (go_simp; done) | (go_simp; with_reducible rfl) | with_reducible rfl
  try simp only [Act.put, List.setIfInBounds_toArray, List.set_cons_zero, List.set_cons_succ]
  refine wpAnyL_take (i := 3) (v := ?_) rfl (by kernel_rfl) (by kernel_rfl) (by kernel_rfl) (by kernel_rfl) (by kernel_rfl) (fun _ _ _ h => h) (Or.inl ⟨by rfl, ?_⟩) (by assumption) ?_
  rotate_left
  · intro wq hSw; (try dsimp only at hSw); obtain ⟨g1, g2⟩ := HCE.out wq hSw; first | (go_simp; done) | (go_simp; with_reducible rfl) | with_reducible rfl
  try simp only [Act.put, List.setIfInBounds_toArray, List.set_cons_zero, List.set_cons_succ]
  refine wpAnyL_take (i := 5) (v := ?_) rfl (by kernel_rfl) (by kernel_rfl) (by kernel_rfl) (by kernel_rfl) (by kernel_rfl) (fun _ _ _ h => h) (Or.inl ⟨by rfl, ?_⟩) (by assumption) ?_
  rotate_left
  · intro wq hSw; (try dsimp only at hSw); obtain ⟨g1, g2⟩ := HCE.out wq hSw; first | (go_simp; done) | (go_simp; with_reducible rfl) | with_reducible rfl
  try simp only [Act.put, List.setIfInBounds_toArray, List.set_cons_zero, List.set_cons_succ]
  refine wpAnyL_take (i := 6) (v := ?_) rfl (by kernel_rfl) (by kernel_rfl) (by kernel_rfl) (by kernel_rfl) (by kernel_rfl) (fun _ _ _ h => h) (Or.inl ⟨by rfl, ?_⟩) (by assumption) ?_
  rotate_left
  · intro wq hSw; (try dsimp only at hSw); obtain ⟨g1, g2⟩ := HCE.out wq hSw; first | (go_simp; done) | (go_simp; with_reducible rfl) | with_reducible rfl
  try simp only [Act.put, List.setIfInBounds_toArray, List.set_cons_zero, List.set_cons_succ]
  refine wpAnyL_take (i := 7) (v := ?_) rfl (by kernel_rfl) (by kernel_rfl) (by kernel_rfl) (by kernel_rfl) (by kernel_rfl) (fun _ _ _ h => h) (Or.inl ⟨by rfl, ?_⟩) (by assumption) ?_
  rotate_left
  · intro wq hSw; (try dsimp only at hSw); obtain ⟨g1, g2⟩ := HCE.out wq hSw; first | (go_simp; done) | (go_simp; with_reducible rfl) | with_reducible rfl
  try simp only [Act.put, List.setIfInBounds_toArray, List.set_cons_zero, List.set_cons_succ]
  refine wpAnyL_ready (rs := [4]) (by kernel_rfl) (by simp) ?_
  refine (AllReadyL.cons rfl (fun K hK => ?_) AllReadyL.nil)
  go_simp
  go_wp2_with fail
  refine (rput17_any _ [] 1 2 ki (by omega) (by omega)).mono ?_
  rintro e we ⟨rfl, hy⟩
  have HSe := Lib.hid (HSd.out.below hy)
  clear hy HSd
  have HSd := HSe
  clear HSe
  refine hK.out _ _ HSd.out (fun hHeld => ?_)
  clear hK K
  refine wpAnyL_ready (rs := [8]) (by kernel_rfl) (by simp) ?_
  refine (AllReadyL.cons rfl (fun K hK => ?_) AllReadyL.nil)
  go_simp
  go_wp2_with fail
  refine (rput17_any _ (putR 2 [] 1 ki) 3 1 ks (by omega) (by omega)).mono ?_
  rintro e wf ⟨rfl, hy⟩
  have HSe := Lib.hid (HSd.out.below hy)
  clear hy HSd
  have HSd := HSe
  clear HSe
  refine hK.out _ _ HSd.out (fun hHeld => ?_)
  clear hK K
  refine wpAnyL_ready (rs := [9]) (by kernel_rfl) (by simp) ?_
  refine AllReadyL.last rfl (fun K hK => ?_)
  refine Eq.mpr (if_pos (by kernel_rfl)) ?_
  refine wp_store_row 23 (.tmp 4) (.tmp 38) rfl (w.heap.size + 2) (lnA (putR 1 (putR 2 [] 1 ki) 3 ks)) rfl rfl _ _ HSd.out.hl info_line rfl (ln_one _) ?_
  refine hK.out _ _ ?_
  clear hK K hHeld
  refine wpAnyL_done (by kernel_rfl) ?_ _
  have HS := Lib.hid (HSd.out.row (putR 1 (putR 2 [] 1 ki) 3 ks))
  clear HSd HCE
  generalize _root_.Go.World.setRow wf (w.heap.size + 2) (lnA (putR 1 (putR 2 [] 1 ki) 3 ks)) = x2 at *
  obtain ⟨⟨m0, m1, m2, m8, m7, m16, m17, m18, m19, m20⟩, ⟨r0, r1, r2, r3, r4, r5, r6, r7, r8, r9, r10⟩⟩ := es_cells HM HR HS.out
  go_wp2_with fail
  clear m0 m1 m2 m8 m7 m16 m17 m18 m19 m20 r0 r1 r2 r3 r4 r5 r6 r7 r8 r9 r10
  go_loopw [8] (fun t wr => t = .int .i64 0 ∧ Hid (ES w gr MA RX (putR 1 (putR 2 [] 1 ki) 3 ks) wr)) (fun _ _ => 0)
  case atStart => exact ⟨rfl, HS⟩
  case round =>
  clear HS
  obtain ⟨rfl, HS⟩ := hrel
  obtain ⟨⟨m0, m1, m2, m8, m7, m16, m17, m18, m19, m20⟩, ⟨r0, r1, r2, r3, r4, r5, r6, r7, r8, r9, r10⟩⟩ := es_cells HM HR HS.out
  go_wp2_with (refine wpList_load_row rfl 23 (.tmp 4) rfl (w.heap.size + 2) rfl _ _ _ _ HS.out.hl Try.underlying23 rfl info_line ?_)
  refine (rput17_any _ (putR 1 (putR 2 [] 1 ki) 3 ks) 4 4 sz (by omega) (by omega)).mono ?_
  rintro e y3 ⟨rfl, hy⟩
  have HS1 := Lib.hid (HS.out.below hy)
  clear HS hy
  have HS := HS1
  clear HS1
  clear m0 m1 m2 m8 m7 m16 m17 m18 m19 m20 r0 r1 r2 r3 r4 r5 r6 r7 r8 r9 r10
  go_upto_region 20 with (refine wpList_store_row rfl 23 (.tmp 4) (.tmp 65) rfl (w.heap.size + 2) (lnA _) rfl rfl _ _ HS.out.hl info_line rfl (ln_one _) ?_)
  have HS1 := Lib.hid (HS.out.row (putR 4 (putR 1 (putR 2 [] 1 ki) 3 ks) 4 sz))
  clear HS
  have HS := HS1
  clear HS1
  generalize _root_.Go.World.setRow _ (w.heap.size + 2) (lnA (putR 4 (putR 1 (putR 2 [] 1 ki) 3 ks) 4 sz)) = x3 at *
  obtain ⟨⟨m0, m1, m2, m8, m7, m16, m17, m18, m19, m20⟩, ⟨r0, r1, r2, r3, r4, r5, r6, r7, r8, r9, r10⟩⟩ := es_cells HM HR HS.out
  go_wp2_with (first
      | (refine wpList_load_row rfl 30 (.tmp 1) rfl w.heap.size rfl _ _ _ _ HS.out.hm Try.underlying30 rfl HIM.out ?_)
      | (refine wpList_load_row rfl 41 (.tmp 5) rfl gr rfl _ _ _ _ HS.out.hr Try.underlying41 rfl HIR.out ?_))
  refine (HHD.out _).mono ?_
  rintro e y5 ⟨rfl, hy⟩
  have HS1 := Lib.hid (HS.out.below hy)
  clear HS hy
  have HS := HS1
  clear HS1
  clear m0 m1 m2 m8 m7 m16 m17 m18 m19 m20 r0 r1 r2 r3 r4 r5 r6 r7 r8 r9 r10
  have c0 := HS.out.hl.cell 0 (by omega)
  have f0 := HS.out.hl.frozen 0
  go_upto_region 29 with fail
  have HS1 := Lib.hid (HS.out.one 0 hx (by omega))
  clear HS c0 f0
  have HS := HS1
  clear HS1
  generalize _root_.Go.World.setCell y5 ⟨w.heap.size + 2, 0, none⟩ (.int .u8 hx) = x5 at *
  go_wp2_with (first
    | (refine wpList_load_row rfl 23 (.tmp 4) rfl (w.heap.size + 2) rfl _ _ _ _ HS.out.hl Try.underlying23 rfl info_line ?_)
    | (refine wpList_store_row rfl 23 (.tmp 2) (.tmp 99) rfl (w.heap.size + 1) (lnA (setL (putR 4 (putR 1 (putR 2 [] 1 ki) 3 ks) 4 sz) 0 hx)) rfl rfl _ _ HS.out.hz info_line rfl (ln_one _) ?_))
  exact bodyPost_ret ((results_cell_tmp_row rfl _ _ (w.heap.size + 1) _ _ _ _ rfl (HS.out.hz.set _) Try.underlying23 rfl info_line).trans (by rfl)) rfl ⟨rfl, below_setRow HS.out.hb (by omega) _⟩
set_option maxRecDepth 100000 in
theorem ren_10fz (ki ks sz d0 d1 d2 d3 d4 d5 d6 : Int) (hki : 0 ≤ ki ∧ ki ≤ 65535) (hks : 0 ≤ ks ∧ ks ≤ 255) (hsz : -1 ≤ sz ∧ sz ≤ 4294967295) (hz : ¬ 0 < sz) (hdu : dataU 0 (dL d0 d1 d2 d3 d4 d5 d6) = true) (w : World) : Calls Try.prog 14 #[.agg #[.int .i64 10, .int .i64 ki, .int .i64 ks, .bool false, .bool false, .bool false, .bool false, .int .i64 sz, .int .i64 0, .int .u8 d0, .int .u8 d1, .int .u8 d2, .int .u8 d3, .int .u8 d4, .int .u8 d5, .int .u8 d6, .int .i64 0, .int .i64 0, .int .i64 0, .int .i64 0, .int .i64 0]] w fun e w' => e = .returned (.tuple #[.agg (lnA (setL (putR 1 (putR 2 [] 1 ki) 3 ks) 0 (headE 10 false false false false sz 0 0))), .int .i64 0]) ∧ Below w.heap.size w w' := by
  have hrw := fun w => rowx_any 10 (by omega) w
  have hrg := fun w => rng_any 10 ki ks false false false false sz 0 d0 d1 d2 d3 d4 d5 d6 0 0 0 0 0 (by omega) w
  have hun := fun w => unu_10 ki ks false false false false sz 0 d0 d1 d2 d3 d4 d5 d6 0 0 0 0 0 w
  have hhd := fun w => rhd_10f ki ks sz d0 d1 d2 d3 d4 d5 d6  hki hks hsz w
  have e1 : rngE 10 ki ks false sz 0 0 0 0 0 0 = true := by simp [rngE, keyB, inB]; omega
  have e2 : unuE 10 ki ks false false false false sz 0 d0 d1 d2 d3 d4 d5 d6 0 0 0 0 0 = true := by unfold unuE; rw [hdu]; simp [flatU, keyC, fastC]
  rw [e1] at hrg
  rw [e2] at hun
  have hmx : ∃ MA : Array Value, #[.int .i64 10, .int .i64 ki, .int .i64 ks, .bool false, .bool false, .bool false, .bool false, .int .i64 sz, .int .i64 0, .int .u8 d0, .int .u8 d1, .int .u8 d2, .int .u8 d3, .int .u8 d4, .int .u8 d5, .int .u8 d6, .int .i64 0, .int .i64 0, .int .i64 0, .int .i64 0, .int .i64 0] = MA := ⟨_, rfl⟩
  have hrx : ∃ RX : Array Value, rowX 10 = RX := ⟨_, rfl⟩
  obtain ⟨MA, hMA⟩ := hmx
  obtain ⟨RX, hRX⟩ := hrx
  have hro : RX.all (·.oneCell') = true := by rw [← hRX]; exact one_rowx _ _ _ _ _ _ _ _ _ _ _
  have hrs : (Try.prog.info? 41).map (·.size) = some RX.size := by rw [← hRX]; exact info_rowx
  have hrz : (11 : Nat) = RX.size := by rw [← hRX]; rfl
  have him : (Try.prog.info? 30).map (·.size) = some MA.size := by rw [← hMA]; exact info_msg
  have hd7 : dL d0 d1 d2 d3 d4 d5 d6 = dL d0 d1 d2 d3 d4 d5 d6 := rfl
  rw [hRX] at hrw hrg hun hhd
  rw [hMA] at hrg hun hhd
  have hhr : 0 ≤ headE 10 false false false false sz 0 0 ∧ headE 10 false false false false sz 0 0 ≤ 255 := head_rng (m := ⟨10, ki, ks, false, false, false, false, sz, 0, d0, d1, d2, d3, d4, d5, d6, 0, 0, 0, 0, 0⟩) (by simp [canM, canE, inB]) (by simp)
  generalize headE 10 false false false false sz 0 0 = hx at *
  have HM := Lib.hid hMA
  have HR : Hid (#[.int .i64 64, .bool true, .bool false, .bool false, .bool true, .bool false, .bool true, .bool false, .bool false, .bool false, .bool false] = RX) := Lib.hid hRX
  have HRW := Lib.hid hrw
  have HRG := Lib.hid hrg
  have HUN := Lib.hid hun
  have HHD := Lib.hid hhd
  have HRO := Lib.hid hro
  have HIR := Lib.hid hrs
  have HRZ := Lib.hid hrz
  have HIM := Lib.hid him
  clear hrw hrg hun hhd hro hrs hrz him hdu e1 e2 hd7
  go_enter Try.func14, Try.ntmps14
  rw [hMA]
  have hm0 : MA[0]? = some (.int .i64 10) := by rw [← hMA]; rfl
  clear hMA hRX
  go_wp2_with fail
  generalize hx0 : ((w.alloc (.cells MA 30)).alloc (.cells #[.int .u8 0, .int .u8 0, .int .u8 0, .int .u8 0, .int .u8 0, .int .u8 0, .int .u8 0, .int .u8 0] 23)).alloc (.cells #[.int .u8 0, .int .u8 0, .int .u8 0, .int .u8 0, .int .u8 0, .int .u8 0, .int .u8 0, .int .u8 0] 23) = x0 at *
  have HQ := Lib.hid (eb_start hx0)
  clear hx0
  refine (HRW.out x0).mono ?_
  rintro e w1 ⟨rfl, hb1⟩
  have HS0 := Lib.hid (HQ.out.row hb1)
  have HS := Lib.hid (HS0.out.told RX)
  clear hb1 HQ hm0
  go_upto_region 3 with (refine wpList_store_row rfl 41 (.tmp 5) (.tmp 13) rfl w1.heap.size RX rfl rfl _ _ HS0.out.hr HIR.out HRZ.out HRO.out ?_)
  clear HS0
  generalize (w1.alloc (.cells #[.int .i64 0, .bool false, .bool false, .bool false, .bool false, .bool false, .bool false, .bool false, .bool false, .bool false, .bool false] 41)).setRow w1.heap.size RX = x1 at *
  generalize w1.heap.size = gr at *
  go_wp2_with (first
      | (refine wpList_load_row rfl 30 (.tmp 1) rfl w.heap.size rfl _ _ _ _ HS.out.hm Try.underlying30 rfl HIM.out ?_)
      | (refine wpList_load_row rfl 41 (.tmp 5) rfl gr rfl _ _ _ _ HS.out.hr Try.underlying41 rfl HIR.out ?_))
  refine (HRG.out _).mono ?_
  rintro e y1 ⟨rfl, hy⟩
  have HS1 := Lib.hid (HS.out.below hy)
  clear HS hy
  have HS := HS1
  clear HS1
  go_wp2_with (first
      | (refine wpList_load_row rfl 30 (.tmp 1) rfl w.heap.size rfl _ _ _ _ HS.out.hm Try.underlying30 rfl HIM.out ?_)
      | (refine wpList_load_row rfl 41 (.tmp 5) rfl gr rfl _ _ _ _ HS.out.hr Try.underlying41 rfl HIR.out ?_))
  refine (HUN.out _).mono ?_
  rintro e y2 ⟨rfl, hy⟩
  have HS1 := Lib.hid (HS.out.below hy)
  clear HS hy
  have HS := HS1
  clear HS1
  obtain ⟨⟨m0, m1, m2, m8, m7, m16, m17, m18, m19, m20⟩, ⟨r0, r1, r2, r3, r4, r5, r6, r7, r8, r9, r10⟩⟩ := es_cells HM HR HS.out
  go_upto_region 10 with fail
  have HCE : Hid (∀ y, ES w gr MA RX [] y → y.cell? ⟨w.heap.size, 1, none⟩ = some (.int .i64 ki) ∧ y.cell? ⟨w.heap.size, 2, none⟩ = some (.int .i64 ks)) := Lib.hid (fun y h => ⟨(h.msg 1).trans (by rw [← HM.out]; rfl), (h.msg 2).trans (by rw [← HM.out]; rfl)⟩)
  clear m0 m1 m2 m8 m7 m16 m17 m18 m19 m20 r0 r1 r2 r3 r4 r5 r6 r7 r8 r9 r10
  refine wp_region_last (fun y => ES w gr MA RX [] y) 9 (by kernel_rfl) (HS.out.below ((Below.refl _ _).drew)) (fun hHeld => ?_)
  have HSd := Lib.hid hHeld
  clear HS
  refine wpAnyL_take (i := 0) (v := .agg (lnA [])) rfl (by kernel_rfl) (by kernel_rfl) (by kernel_rfl) (by kernel_rfl) (by kernel_rfl) (fun _ _ _ h => h) (Or.inl ⟨by rfl, ?_⟩) (by assumption) ?_
  · intro wq hSw
    exact run_load_row (x := .tmp 4) rfl rfl hSw.hl rfl Try.underlying23 info_line
  try simp only [Act.put, List.setIfInBounds_toArray, List.set_cons_zero, List.set_cons_succ]
  refine wpAnyL_take (i := 1) (v := ?_) rfl (by kernel_rfl) (by kernel_rfl) (by kernel_rfl) (by kernel_rfl) (by kernel_rfl) (fun _ _ _ h => h) (Or.inl ⟨by rfl, ?_⟩) (by assumption) ?_
  rotate_left
  · intro wq hSw; (try dsimp only at hSw); obtain ⟨g1, g2⟩ := HCE.out wq hSw; first | (go_simp; done) | (go_simp; with_reducible rfl) | with_reducible rfl
  try simp only [Act.put, List.setIfInBounds_toArray, List.set_cons_zero, List.set_cons_succ]
  refine wpAnyL_take (i := 2) (v := ?_) rfl (by kernel_rfl) (by kernel_rfl) (by kernel_rfl) (by kernel_rfl) (by kernel_rfl) (fun _ _ _ h => h) (Or.inl ⟨by rfl, ?_⟩) (by assumption) ?_
  rotate_left
  · intro wq hSw; (try dsimp only at hSw); obtain ⟨g1, g2⟩ := HCE.out wq hSw; first | (go_simp; done) | (go_simp; with_reducible rfl) | with_reducible rfl
  try simp only [Act.put, List.setIfInBounds_toArray, List.set_cons_zero, List.set_cons_succ]
  refine wpAnyL_take (i := 3) (v := ?_) rfl (by kernel_rfl) (by kernel_rfl) (by kernel_rfl) (by kernel_rfl) (by kernel_rfl) (fun _ _ _ h => h) (Or.inl ⟨by rfl, ?_⟩) (by assumption) ?_
  rotate_left
  · intro wq hSw; (try dsimp only at hSw); obtain ⟨g1, g2⟩ := HCE.out wq hSw; first | (go_simp; done) | (go_simp; with_reducible rfl) | with_reducible rfl
  try simp only [Act.put, List.setIfInBounds_toArray, List.set_cons_zero, List.set_cons_succ]
  refine wpAnyL_take (i := 5) (v := ?_) rfl (by kernel_rfl) (by kernel_rfl) (by kernel_rfl) (by kernel_rfl) (by kernel_rfl) (fun _ _ _ h => h) (Or.inl ⟨by rfl, ?_⟩) (by assumption) ?_
  rotate_left
  · intro wq hSw; (try dsimp only at hSw); obtain ⟨g1, g2⟩ := HCE.out wq hSw; first | (go_simp; done) | (go_simp; with_reducible rfl) | with_reducible rfl
  try simp only [Act.put, List.setIfInBounds_toArray, List.set_cons_zero, List.set_cons_succ]
  refine wpAnyL_take (i := 6) (v := ?_) rfl (by kernel_rfl) (by kernel_rfl) (by kernel_rfl) (by kernel_rfl) (by kernel_rfl) (fun _ _ _ h => h) (Or.inl ⟨by rfl, ?_⟩) (by assumption) ?_
  rotate_left
  · intro wq hSw; (try dsimp only at hSw); obtain ⟨g1, g2⟩ := HCE.out wq hSw; first | (go_simp; done) | (go_simp; with_reducible rfl) | with_reducible rfl
  try simp only [Act.put, List.setIfInBounds_toArray, List.set_cons_zero, List.set_cons_succ]
  refine wpAnyL_take (i := 7) (v := ?_) rfl (by kernel_rfl) (by kernel_rfl) (by kernel_rfl) (by kernel_rfl) (by kernel_rfl) (fun _ _ _ h => h) (Or.inl ⟨by rfl, ?_⟩) (by assumption) ?_
  rotate_left
  · intro wq hSw; (try dsimp only at hSw); obtain ⟨g1, g2⟩ := HCE.out wq hSw; first | (go_simp; done) | (go_simp; with_reducible rfl) | with_reducible rfl
  try simp only [Act.put, List.setIfInBounds_toArray, List.set_cons_zero, List.set_cons_succ]
  refine wpAnyL_ready (rs := [4]) (by kernel_rfl) (by simp) ?_
  refine (AllReadyL.cons rfl (fun K hK => ?_) AllReadyL.nil)
  go_simp
  go_wp2_with fail
  refine (rput17_any _ [] 1 2 ki (by omega) (by omega)).mono ?_
  rintro e we ⟨rfl, hy⟩
  have HSe := Lib.hid (HSd.out.below hy)
  clear hy HSd
  have HSd := HSe
  clear HSe
  refine hK.out _ _ HSd.out (fun hHeld => ?_)
  clear hK K
  refine wpAnyL_ready (rs := [8]) (by kernel_rfl) (by simp) ?_
  refine (AllReadyL.cons rfl (fun K hK => ?_) AllReadyL.nil)
  go_simp
  go_wp2_with fail
  refine (rput17_any _ (putR 2 [] 1 ki) 3 1 ks (by omega) (by omega)).mono ?_
  rintro e wf ⟨rfl, hy⟩
  have HSe := Lib.hid (HSd.out.below hy)
  clear hy HSd
  have HSd := HSe
  clear HSe
  refine hK.out _ _ HSd.out (fun hHeld => ?_)
  clear hK K
  refine wpAnyL_ready (rs := [9]) (by kernel_rfl) (by simp) ?_
  refine AllReadyL.last rfl (fun K hK => ?_)
  refine Eq.mpr (if_pos (by kernel_rfl)) ?_
  refine wp_store_row 23 (.tmp 4) (.tmp 38) rfl (w.heap.size + 2) (lnA (putR 1 (putR 2 [] 1 ki) 3 ks)) rfl rfl _ _ HSd.out.hl info_line rfl (ln_one _) ?_
  refine hK.out _ _ ?_
  clear hK K hHeld
  refine wpAnyL_done (by kernel_rfl) ?_ _
  have HS := Lib.hid (HSd.out.row (putR 1 (putR 2 [] 1 ki) 3 ks))
  clear HSd HCE
  generalize _root_.Go.World.setRow wf (w.heap.size + 2) (lnA (putR 1 (putR 2 [] 1 ki) 3 ks)) = x2 at *
  obtain ⟨⟨m0, m1, m2, m8, m7, m16, m17, m18, m19, m20⟩, ⟨r0, r1, r2, r3, r4, r5, r6, r7, r8, r9, r10⟩⟩ := es_cells HM HR HS.out
  go_wp2_with fail
  clear m0 m1 m2 m8 m7 m16 m17 m18 m19 m20 r0 r1 r2 r3 r4 r5 r6 r7 r8 r9 r10
  go_loopw [8] (fun t wr => t = .int .i64 0 ∧ Hid (ES w gr MA RX (putR 1 (putR 2 [] 1 ki) 3 ks) wr)) (fun _ _ => 0)
  case atStart => exact ⟨rfl, HS⟩
  case round =>
  clear HS
  obtain ⟨rfl, HS⟩ := hrel
  obtain ⟨⟨m0, m1, m2, m8, m7, m16, m17, m18, m19, m20⟩, ⟨r0, r1, r2, r3, r4, r5, r6, r7, r8, r9, r10⟩⟩ := es_cells HM HR HS.out
  go_wp2_with (first
      | (refine wpList_load_row rfl 30 (.tmp 1) rfl w.heap.size rfl _ _ _ _ HS.out.hm Try.underlying30 rfl HIM.out ?_)
      | (refine wpList_load_row rfl 41 (.tmp 5) rfl gr rfl _ _ _ _ HS.out.hr Try.underlying41 rfl HIR.out ?_))
  refine (HHD.out _).mono ?_
  rintro e y5 ⟨rfl, hy⟩
  have HS1 := Lib.hid (HS.out.below hy)
  clear HS hy
  have HS := HS1
  clear HS1
  clear m0 m1 m2 m8 m7 m16 m17 m18 m19 m20 r0 r1 r2 r3 r4 r5 r6 r7 r8 r9 r10
  have c0 := HS.out.hl.cell 0 (by omega)
  have f0 := HS.out.hl.frozen 0
  go_upto_region 29 with fail
  have HS1 := Lib.hid (HS.out.one 0 hx (by omega))
  clear HS c0 f0
  have HS := HS1
  clear HS1
  generalize _root_.Go.World.setCell y5 ⟨w.heap.size + 2, 0, none⟩ (.int .u8 hx) = x5 at *
  go_wp2_with (first
    | (refine wpList_load_row rfl 23 (.tmp 4) rfl (w.heap.size + 2) rfl _ _ _ _ HS.out.hl Try.underlying23 rfl info_line ?_)
    | (refine wpList_store_row rfl 23 (.tmp 2) (.tmp 99) rfl (w.heap.size + 1) (lnA (setL (putR 1 (putR 2 [] 1 ki) 3 ks) 0 hx)) rfl rfl _ _ HS.out.hz info_line rfl (ln_one _) ?_))
  exact bodyPost_ret ((results_cell_tmp_row rfl _ _ (w.heap.size + 1) _ _ _ _ rfl (HS.out.hz.set _) Try.underlying23 rfl info_line).trans (by rfl)) rfl ⟨rfl, below_setRow HS.out.hb (by omega) _⟩
set_option maxRecDepth 100000 in
theorem ren_10t (ki ks n d0 d1 d2 d3 d4 d5 d6 : Int) (hki : 0 ≤ ki ∧ ki ≤ 65535) (hks : 0 ≤ ks ∧ ks ≤ 255) (hn : 1 ≤ n ∧ n ≤ 4) (hdu : dataU n (dL d0 d1 d2 d3 d4 d5 d6) = true) (w : World) : Calls Try.prog 14 #[.agg #[.int .i64 10, .int .i64 ki, .int .i64 ks, .bool false, .bool false, .bool true, .bool false, .int .i64 0, .int .i64 n, .int .u8 d0, .int .u8 d1, .int .u8 d2, .int .u8 d3, .int .u8 d4, .int .u8 d5, .int .u8 d6, .int .i64 0, .int .i64 0, .int .i64 0, .int .i64 0, .int .i64 0]] w fun e w' => e = .returned (.tuple #[.agg (lnA (setL (putD n.toNat (dL d0 d1 d2 d3 d4 d5 d6) 4 (putR 1 (putR 2 [] 1 ki) 3 ks)) 0 (headE 10 false false true false 0 n 0))), .int .i64 0]) ∧ Below w.heap.size w w' := by
  have hrw := fun w => rowx_any 10 (by omega) w
  have hrg := fun w => rng_any 10 ki ks false false true false 0 n d0 d1 d2 d3 d4 d5 d6 0 0 0 0 0 (by omega) w
  have hun := fun w => unu_10 ki ks false false true false 0 n d0 d1 d2 d3 d4 d5 d6 0 0 0 0 0 w
  have hhd := fun w => rhd_10t ki ks n d0 d1 d2 d3 d4 d5 d6  hki hks hn w
  have e1 : rngE 10 ki ks true 0 n 0 0 0 0 0 = true := by simp [rngE, keyB, inB]; omega
  have e2 : unuE 10 ki ks false false true false 0 n d0 d1 d2 d3 d4 d5 d6 0 0 0 0 0 = true := by unfold unuE; rw [hdu]; simp [flatU, keyC, fastC]
  rw [e1] at hrg
  rw [e2] at hun
  have hmx : ∃ MA : Array Value, #[.int .i64 10, .int .i64 ki, .int .i64 ks, .bool false, .bool false, .bool true, .bool false, .int .i64 0, .int .i64 n, .int .u8 d0, .int .u8 d1, .int .u8 d2, .int .u8 d3, .int .u8 d4, .int .u8 d5, .int .u8 d6, .int .i64 0, .int .i64 0, .int .i64 0, .int .i64 0, .int .i64 0] = MA := ⟨_, rfl⟩
  have hrx : ∃ RX : Array Value, rowX 10 = RX := ⟨_, rfl⟩
  obtain ⟨MA, hMA⟩ := hmx
  obtain ⟨RX, hRX⟩ := hrx
  have hro : RX.all (·.oneCell') = true := by rw [← hRX]; exact one_rowx _ _ _ _ _ _ _ _ _ _ _
  have hrs : (Try.prog.info? 41).map (·.size) = some RX.size := by rw [← hRX]; exact info_rowx
  have hrz : (11 : Nat) = RX.size := by rw [← hRX]; rfl
  have him : (Try.prog.info? 30).map (·.size) = some MA.size := by rw [← hMA]; exact info_msg
  have hd7 : dL d0 d1 d2 d3 d4 d5 d6 = dL d0 d1 d2 d3 d4 d5 d6 := rfl
  rw [hRX] at hrw hrg hun hhd
  rw [hMA] at hrg hun hhd
  have hhr : 0 ≤ headE 10 false false true false 0 n 0 ∧ headE 10 false false true false 0 n 0 ≤ 255 := head_rng (m := ⟨10, ki, ks, false, false, true, false, 0, n, d0, d1, d2, d3, d4, d5, d6, 0, 0, 0, 0, 0⟩) (by simp [canM, canE, inB]; omega) (by simp)
  generalize headE 10 false false true false 0 n 0 = hx at *
  have HM := Lib.hid hMA
  have HR : Hid (#[.int .i64 64, .bool true, .bool false, .bool false, .bool true, .bool false, .bool true, .bool false, .bool false, .bool false, .bool false] = RX) := Lib.hid hRX
  have HRW := Lib.hid hrw
  have HRG := Lib.hid hrg
  have HUN := Lib.hid hun
  have HHD := Lib.hid hhd
  have HRO := Lib.hid hro
  have HIR := Lib.hid hrs
  have HRZ := Lib.hid hrz
  have HIM := Lib.hid him
  clear hrw hrg hun hhd hro hrs hrz him hdu e1 e2 hd7
  go_enter Try.func14, Try.ntmps14
  rw [hMA]
  have hm0 : MA[0]? = some (.int .i64 10) := by rw [← hMA]; rfl
  clear hMA hRX
  go_wp2_with fail
  generalize hx0 : ((w.alloc (.cells MA 30)).alloc (.cells #[.int .u8 0, .int .u8 0, .int .u8 0, .int .u8 0, .int .u8 0, .int .u8 0, .int .u8 0, .int .u8 0] 23)).alloc (.cells #[.int .u8 0, .int .u8 0, .int .u8 0, .int .u8 0, .int .u8 0, .int .u8 0, .int .u8 0, .int .u8 0] 23) = x0 at *
  have HQ := Lib.hid (eb_start hx0)
  clear hx0
  refine (HRW.out x0).mono ?_
  rintro e w1 ⟨rfl, hb1⟩
  have HS0 := Lib.hid (HQ.out.row hb1)
  have HS := Lib.hid (HS0.out.told RX)
  clear hb1 HQ hm0
  go_upto_region 3 with (refine wpList_store_row rfl 41 (.tmp 5) (.tmp 13) rfl w1.heap.size RX rfl rfl _ _ HS0.out.hr HIR.out HRZ.out HRO.out ?_)
  clear HS0
  generalize (w1.alloc (.cells #[.int .i64 0, .bool false, .bool false, .bool false, .bool false, .bool false, .bool false, .bool false, .bool false, .bool false, .bool false] 41)).setRow w1.heap.size RX = x1 at *
  generalize w1.heap.size = gr at *
  go_wp2_with (first
      | (refine wpList_load_row rfl 30 (.tmp 1) rfl w.heap.size rfl _ _ _ _ HS.out.hm Try.underlying30 rfl HIM.out ?_)
      | (refine wpList_load_row rfl 41 (.tmp 5) rfl gr rfl _ _ _ _ HS.out.hr Try.underlying41 rfl HIR.out ?_))
  refine (HRG.out _).mono ?_
  rintro e y1 ⟨rfl, hy⟩
  have HS1 := Lib.hid (HS.out.below hy)
  clear HS hy
  have HS := HS1
  clear HS1
  go_wp2_with (first
      | (refine wpList_load_row rfl 30 (.tmp 1) rfl w.heap.size rfl _ _ _ _ HS.out.hm Try.underlying30 rfl HIM.out ?_)
      | (refine wpList_load_row rfl 41 (.tmp 5) rfl gr rfl _ _ _ _ HS.out.hr Try.underlying41 rfl HIR.out ?_))
  refine (HUN.out _).mono ?_
  rintro e y2 ⟨rfl, hy⟩
  have HS1 := Lib.hid (HS.out.below hy)
  clear HS hy
  have HS := HS1
  clear HS1
  obtain ⟨⟨m0, m1, m2, m8, m7, m16, m17, m18, m19, m20⟩, ⟨r0, r1, r2, r3, r4, r5, r6, r7, r8, r9, r10⟩⟩ := es_cells HM HR HS.out
  go_upto_region 10 with fail
  have HCE : Hid (∀ y, ES w gr MA RX [] y → y.cell? ⟨w.heap.size, 1, none⟩ = some (.int .i64 ki) ∧ y.cell? ⟨w.heap.size, 2, none⟩ = some (.int .i64 ks)) := Lib.hid (fun y h => ⟨(h.msg 1).trans (by rw [← HM.out]; rfl), (h.msg 2).trans (by rw [← HM.out]; rfl)⟩)
  clear m0 m1 m2 m8 m7 m16 m17 m18 m19 m20 r0 r1 r2 r3 r4 r5 r6 r7 r8 r9 r10
  refine wp_region_last (fun y => ES w gr MA RX [] y) 9 (by kernel_rfl) (HS.out.below ((Below.refl _ _).drew)) (fun hHeld => ?_)
  have HSd := Lib.hid hHeld
  clear HS
  refine wpAnyL_take (i := 0) (v := .agg (lnA [])) rfl (by kernel_rfl) (by kernel_rfl) (by kernel_rfl) (by kernel_rfl) (by kernel_rfl) (fun _ _ _ h => h) (Or.inl ⟨by rfl, ?_⟩) (by assumption) ?_
  · intro wq hSw
    exact run_load_row (x := .tmp 4) rfl rfl hSw.hl rfl Try.underlying23 info_line
  try simp only [Act.put, List.setIfInBounds_toArray, List.set_cons_zero, List.set_cons_succ]
  refine wpAnyL_take (i := 1) (v := ?_) rfl (by kernel_rfl) (by kernel_rfl) (by kernel_rfl) (by kernel_rfl) (by kernel_rfl) (fun _ _ _ h => h) (Or.inl ⟨by rfl, ?_⟩) (by assumption) ?_
  rotate_left
  · intro wq hSw; (try dsimp only at hSw); obtain ⟨g1, g2⟩ := HCE.out wq hSw; first | (go_simp; done) | (go_simp; with_reducible rfl) | with_reducible rfl
  try simp only [Act.put, List.setIfInBounds_toArray, List.set_cons_zero, List.set_cons_succ]
  refine wpAnyL_take (i := 2) (v := ?_) rfl (by kernel_rfl) (by kernel_rfl) (by kernel_rfl) (by kernel_rfl) (by kernel_rfl) (fun _ _ _ h => h) (Or.inl ⟨by rfl, ?_⟩) (by assumption) ?_
  rotate_left
  · intro wq hSw; (try dsimp only at hSw); obtain ⟨g1, g2⟩ := HCE.out wq hSw; first | (go_simp; done) | (go_simp; with_reducible rfl) | with_reducible rfl
  try simp only [Act.put, List.setIfInBounds_toArray, List.set_cons_zero, List.set_cons_succ]
  refine wpAnyL_take (i := 3) (v := ?_) rfl (by kernel_rfl) (by kernel_rfl) (by kernel_rfl) (by kernel_rfl) (by kernel_rfl) (fun _ _ _ h => h) (Or.inl ⟨by rfl, ?_⟩) (by assumption) ?_
  rotate_left
  · intro wq hSw; (try dsimp only at hSw); obtain ⟨g1, g2⟩ := HCE.out wq hSw; first | (go_simp; done) | (go_simp; with_reducible rfl) | with_reducible rfl
  try simp only [Act.put, List.setIfInBounds_toArray, List.set_cons_zero, List.set_cons_succ]
  refine wpAnyL_take (i := 5) (v := ?_) rfl (by kernel_rfl) (by kernel_rfl) (by kernel_rfl) (by kernel_rfl) (by kernel_rfl) (fun _ _ _ h => h) (Or.inl ⟨by rfl, ?_⟩) (by assumption) ?_
  rotate_left
  · intro wq hSw; (try dsimp only at hSw); obtain ⟨g1, g2⟩ := HCE.out wq hSw; first | (go_simp; done) | (go_simp; with_reducible rfl) | with_reducible rfl
  try simp only [Act.put, List.setIfInBounds_toArray, List.set_cons_zero, List.set_cons_succ]
  refine wpAnyL_take (i := 6) (v := ?_) rfl (by kernel_rfl) (by kernel_rfl) (by kernel_rfl) (by kernel_rfl) (by kernel_rfl) (fun _ _ _ h => h) (Or.inl ⟨by rfl, ?_⟩) (by assumption) ?_
  rotate_left
  · intro wq hSw; (try dsimp only at hSw); obtain ⟨g1, g2⟩ := HCE.out wq hSw; first | (go_simp; done) | (go_simp; with_reducible rfl) | with_reducible rfl
  try simp only [Act.put, List.setIfInBounds_toArray, List.set_cons_zero, List.set_cons_succ]
  refine wpAnyL_take (i := 7) (v := ?_) rfl (by kernel_rfl) (by kernel_rfl) (by kernel_rfl) (by kernel_rfl) (by kernel_rfl) (fun _ _ _ h => h) (Or.inl ⟨by rfl, ?_⟩) (by assumption) ?_
  rotate_left
  · intro wq hSw; (try dsimp only at hSw); obtain ⟨g1, g2⟩ := HCE.out wq hSw; first | (go_simp; done) | (go_simp; with_reducible rfl) | with_reducible rfl
  try simp only [Act.put, List.setIfInBounds_toArray, List.set_cons_zero, List.set_cons_succ]
  refine wpAnyL_ready (rs := [4]) (by kernel_rfl) (by simp) ?_
  refine (AllReadyL.cons rfl (fun K hK => ?_) AllReadyL.nil)
  go_simp
  go_wp2_with fail
  refine (rput17_any _ [] 1 2 ki (by omega) (by omega)).mono ?_
  rintro e we ⟨rfl, hy⟩
  have HSe := Lib.hid (HSd.out.below hy)
  clear hy HSd
  have HSd := HSe
  clear HSe
  refine hK.out _ _ HSd.out (fun hHeld => ?_)
  clear hK K
  refine wpAnyL_ready (rs := [8]) (by kernel_rfl) (by simp) ?_
  refine (AllReadyL.cons rfl (fun K hK => ?_) AllReadyL.nil)
  go_simp
  go_wp2_with fail
  refine (rput17_any _ (putR 2 [] 1 ki) 3 1 ks (by omega) (by omega)).mono ?_
  rintro e wf ⟨rfl, hy⟩
  have HSe := Lib.hid (HSd.out.below hy)
  clear hy HSd
  have HSd := HSe
  clear HSe
  refine hK.out _ _ HSd.out (fun hHeld => ?_)
  clear hK K
  refine wpAnyL_ready (rs := [9]) (by kernel_rfl) (by simp) ?_
  refine AllReadyL.last rfl (fun K hK => ?_)
  refine Eq.mpr (if_pos (by kernel_rfl)) ?_
  refine wp_store_row 23 (.tmp 4) (.tmp 38) rfl (w.heap.size + 2) (lnA (putR 1 (putR 2 [] 1 ki) 3 ks)) rfl rfl _ _ HSd.out.hl info_line rfl (ln_one _) ?_
  refine hK.out _ _ ?_
  clear hK K hHeld
  refine wpAnyL_done (by kernel_rfl) ?_ _
  have HS := Lib.hid (HSd.out.row (putR 1 (putR 2 [] 1 ki) 3 ks))
  clear HSd HCE
  generalize _root_.Go.World.setRow wf (w.heap.size + 2) (lnA (putR 1 (putR 2 [] 1 ki) 3 ks)) = x2 at *
  obtain ⟨⟨m0, m1, m2, m8, m7, m16, m17, m18, m19, m20⟩, ⟨r0, r1, r2, r3, r4, r5, r6, r7, r8, r9, r10⟩⟩ := es_cells HM HR HS.out
  go_wp2_with fail
  clear m0 m1 m2 m8 m7 m16 m17 m18 m19 m20 r0 r1 r2 r3 r4 r5 r6 r7 r8 r9 r10
  have HDT : Hid (∀ p, p < 7 → MA[9 + p]? = some (.int .u8 ((dL d0 d1 d2 d3 d4 d5 d6).getD p 0))) := Lib.hid (fun p hp => by
    rw [← HM.out]
    have : p = 0 ∨ p = 1 ∨ p = 2 ∨ p = 3 ∨ p = 4 ∨ p = 5 ∨ p = 6 := by omega
    rcases this with rfl | rfl | rfl | rfl | rfl | rfl | rfl <;> rfl)
  go_loopw [8] (fun t wr => ∃ p : Nat, (p : Int) ≤ n ∧ t = .int .i64 p ∧ Hid (ES w gr MA RX (putD p (dL d0 d1 d2 d3 d4 d5 d6) 4 (putR 1 (putR 2 [] 1 ki) 3 ks)) wr)) (fun t _ => n.toNat - (intOf t).toNat)
  case atStart => exact ⟨0, by omega, rfl, HS⟩
  case round =>
  clear HS
  obtain ⟨p, hp, rfl, HS⟩ := hrel
  by_cases hlt : (p : Int) < n
  · have m8 := (HS.out.msg 8).trans (show MA[8]? = some (.int .i64 n) from by rw [← HM.out]; rfl)
    have md := (HS.out.msg (9 + p)).trans (HDT.out p (by omega))
    have c0 := HS.out.hl.cell (4 + p) (by omega)
    have f0 := HS.out.hl.frozen (4 + p)
    have HS1 : Hid (ES w gr MA RX (putD (p + 1) (dL d0 d1 d2 d3 d4 d5 d6) 4 (putR 1 (putR 2 [] 1 ki) 3 ks)) (_root_.Go.World.setCell wr ⟨w.heap.size + 2, 4 + p, none⟩ (.int .u8 ((dL d0 d1 d2 d3 d4 d5 d6).getD p 0)))) := Lib.hid (HS.out.one (4 + p) _ (by omega))
    generalize (dL d0 d1 d2 d3 d4 d5 d6).getD p 0 = xd at *
    go_wp2_with fail
    exact ⟨⟨p + 1, by omega, by go_num, HS1⟩, by simp [intOf]; omega⟩
  have hpn : p = n.toNat := by omega
  have hpe : (p : Int) = n := by omega
  rw [hpn] at HS
  have HPE := Lib.hid hpe
  obtain ⟨⟨m0, m1, m2, m8, m7, m16, m17, m18, m19, m20⟩, ⟨r0, r1, r2, r3, r4, r5, r6, r7, r8, r9, r10⟩⟩ := es_cells HM HR HS.out
  go_wp2_with (first
      | (refine wpList_load_row rfl 30 (.tmp 1) rfl w.heap.size rfl _ _ _ _ HS.out.hm Try.underlying30 rfl HIM.out ?_)
      | (refine wpList_load_row rfl 41 (.tmp 5) rfl gr rfl _ _ _ _ HS.out.hr Try.underlying41 rfl HIR.out ?_))
  refine (HHD.out _).mono ?_
  rintro e y5 ⟨rfl, hy⟩
  have HS1 := Lib.hid (HS.out.below hy)
  clear HS hy
  have HS := HS1
  clear HS1
  clear m0 m1 m2 m8 m7 m16 m17 m18 m19 m20 r0 r1 r2 r3 r4 r5 r6 r7 r8 r9 r10
  have c0 := HS.out.hl.cell 0 (by omega)
  have f0 := HS.out.hl.frozen 0
  go_upto_region 29 with fail
  have HS1 := Lib.hid (HS.out.one 0 hx (by omega))
  clear HS c0 f0
  have HS := HS1
  clear HS1
  generalize _root_.Go.World.setCell y5 ⟨w.heap.size + 2, 0, none⟩ (.int .u8 hx) = x5 at *
  go_wp2_with (first
    | (refine wpList_load_row rfl 23 (.tmp 4) rfl (w.heap.size + 2) rfl _ _ _ _ HS.out.hl Try.underlying23 rfl info_line ?_)
    | (refine wpList_store_row rfl 23 (.tmp 2) (.tmp 99) rfl (w.heap.size + 1) (lnA (setL (putD n.toNat (dL d0 d1 d2 d3 d4 d5 d6) 4 (putR 1 (putR 2 [] 1 ki) 3 ks)) 0 hx)) rfl rfl _ _ HS.out.hz info_line rfl (ln_one _) ?_))
  exact bodyPost_ret ((results_cell_tmp_row rfl _ _ (w.heap.size + 1) _ _ _ _ rfl (HS.out.hz.set _) Try.underlying23 rfl info_line).trans (by rfl)) rfl ⟨rfl, below_setRow HS.out.hb (by omega) _⟩
end Go.Proofs.Ytoamgdcjmkkmfaa
