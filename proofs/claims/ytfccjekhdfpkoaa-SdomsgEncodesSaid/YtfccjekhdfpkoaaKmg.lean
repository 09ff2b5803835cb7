/- The document's Encode of any message. -/
import Derived.Deep.CutBlock
import Derived.Test.YtfccjekhdfpkoaaKme1
import Derived.Test.YtfccjekhdfpkoaaKme2
import Derived.Test.YtfccjekhdfpkoaaKme3
import Derived.Test.YtfccjekhdfpkoaaKme4
import Derived.Test.YtfccjekhdfpkoaaKme5
import Derived.Test.YtfccjekhdfpkoaaKme6
import Derived.Test.YtfccjekhdfpkoaaKmf
import Derived.Test.YtfccjekhdfpkoaaKo
import Derived.Test.YtfccjekhdfpkoaaKp
namespace Go.Proofs.Ytfccjekhdfpkoaa
open Go.RowKit
set_option linter.unusedSimpArgs false
set_option linter.unusedVariables false
set_option maxHeartbeats 4000000
theorem rowx_out (c : Int) (hc : c < 1 ∨ 17 < c) (w : World) : Calls Try.prog 18 #[.int .i64 c] w fun e w' => e = .returned (.tuple #[.agg #[.int .i64 0, .bool false, .bool false, .bool false, .bool false, .bool false, .bool false, .bool false, .bool false, .bool false, .bool false], .bool false]) ∧ Below w.heap.size w w' := by
  have hz : (w.alloc (.cells #[.int .i64 0, .bool false, .bool false, .bool false, .bool false, .bool false, .bool false, .bool false, .bool false, .bool false, .bool false] 49)).heap[w.heap.size]? = some (.cells #[.int .i64 0, .bool false, .bool false, .bool false, .bool false, .bool false, .bool false, .bool false, .bool false, .bool false, .bool false] 49 (0, 0)) := heap_alloc_new w _
  have HZ := Lib.hid hz
  clear hz
  have h1 : ¬ c = 1 := by omega
  have h2 : ¬ c = 2 := by omega
  have h3 : ¬ c = 3 := by omega
  have h4 : ¬ c = 4 := by omega
  have h5 : ¬ c = 5 := by omega
  have h6 : ¬ c = 6 := by omega
  have h7 : ¬ c = 7 := by omega
  have h8 : ¬ c = 8 := by omega
  have h9 : ¬ c = 9 := by omega
  have h10 : ¬ c = 10 := by omega
  have h11 : ¬ c = 11 := by omega
  have h12 : ¬ c = 12 := by omega
  have h13 : ¬ c = 13 := by omega
  have h14 : ¬ c = 14 := by omega
  have h15 : ¬ c = 15 := by omega
  have h16 : ¬ c = 16 := by omega
  have h17 : ¬ c = 17 := by omega
  clear hc
  go_enter Try.func18, Try.ntmps18
  go_wp2_with (refine wpList_store_row rfl 49 (.tmp 2) (.tmp 50) rfl w.heap.size #[.int .i64 0, .bool false, .bool false, .bool false, .bool false, .bool false, .bool false, .bool false, .bool false, .bool false, .bool false] rfl rfl _ _ HZ.out info_rowx rfl (one_rowx 0 false false false false false false false false false false) ?_)
  exact bodyPost_ret ((results_cell_tmp_row rfl _ _ w.heap.size _ _ _ _ rfl (setRow_heap _ _ _ #[.int .i64 0, .bool false, .bool false, .bool false, .bool false, .bool false, .bool false, .bool false, .bool false, .bool false, .bool false] _ _ HZ.out) Try.underlying49 rfl info_rowx).trans (by rfl)) rfl ⟨rfl, below_setRow ((Below.refl _ _).alloc (Nat.le_refl _) _) (Nat.le_refl _) _⟩
theorem rowx_one (c : Int) (hc : 1 ≤ c ∧ c ≤ 17) : (rowX c).all (·.oneCell') = true := by
  have : c = 1 ∨ c = 2 ∨ c = 3 ∨ c = 4 ∨ c = 5 ∨ c = 6 ∨ c = 7 ∨ c = 8 ∨ c = 9 ∨ c = 10 ∨ c = 11 ∨ c = 12 ∨ c = 13 ∨ c = 14 ∨ c = 15 ∨ c = 16 ∨ c = 17 := by omega
  rcases this with rfl | rfl | rfl | rfl | rfl | rfl | rfl | rfl | rfl | rfl | rfl | rfl | rfl | rfl | rfl | rfl | rfl
  all_goals exact one_rowx _ _ _ _ _ _ _ _ _ _ _
theorem rowx_size (c : Int) (hc : 1 ≤ c ∧ c ≤ 17) : (rowX c).size = 11 := by
  have : c = 1 ∨ c = 2 ∨ c = 3 ∨ c = 4 ∨ c = 5 ∨ c = 6 ∨ c = 7 ∨ c = 8 ∨ c = 9 ∨ c = 10 ∨ c = 11 ∨ c = 12 ∨ c = 13 ∨ c = 14 ∨ c = 15 ∨ c = 16 ∨ c = 17 := by omega
  rcases this with rfl | rfl | rfl | rfl | rfl | rfl | rfl | rfl | rfl | rfl | rfl | rfl | rfl | rfl | rfl | rfl | rfl
  all_goals rfl
theorem unu_any (c ki ks : Int) (tg la fa su : Bool) (sz n d0 d1 d2 d3 d4 d5 d6 co sq bl sp cr : Int) (hc : 1 ≤ c ∧ c ≤ 17) (w : World) : Calls Try.prog 20 #[.agg #[.int .i64 c, .int .i64 ki, .int .i64 ks, .bool tg, .bool la, .bool fa, .bool su, .int .i64 sz, .int .i64 n, .int .u8 d0, .int .u8 d1, .int .u8 d2, .int .u8 d3, .int .u8 d4, .int .u8 d5, .int .u8 d6, .int .i64 co, .int .i64 sq, .int .i64 bl, .int .i64 sp, .int .i64 cr], .agg (rowX c)] w fun e w' => e = .returned (.bool (unuE c ki ks tg la fa su sz n d0 d1 d2 d3 d4 d5 d6 co sq bl sp cr)) ∧ Below w.heap.size w w' := by
  have : c = 1 ∨ c = 2 ∨ c = 3 ∨ c = 4 ∨ c = 5 ∨ c = 6 ∨ c = 7 ∨ c = 8 ∨ c = 9 ∨ c = 10 ∨ c = 11 ∨ c = 12 ∨ c = 13 ∨ c = 14 ∨ c = 15 ∨ c = 16 ∨ c = 17 := by omega
  rcases this with rfl | rfl | rfl | rfl | rfl | rfl | rfl | rfl | rfl | rfl | rfl | rfl | rfl | rfl | rfl | rfl | rfl
  · exact unu_1 ki ks tg la fa su sz n d0 d1 d2 d3 d4 d5 d6 co sq bl sp cr w
  · exact unu_2 ki ks tg la fa su sz n d0 d1 d2 d3 d4 d5 d6 co sq bl sp cr w
  · exact unu_3 ki ks tg la fa su sz n d0 d1 d2 d3 d4 d5 d6 co sq bl sp cr w
  · exact unu_4 ki ks tg la fa su sz n d0 d1 d2 d3 d4 d5 d6 co sq bl sp cr w
  · exact unu_5 ki ks tg la fa su sz n d0 d1 d2 d3 d4 d5 d6 co sq bl sp cr w
  · exact unu_6 ki ks tg la fa su sz n d0 d1 d2 d3 d4 d5 d6 co sq bl sp cr w
  · exact unu_7 ki ks tg la fa su sz n d0 d1 d2 d3 d4 d5 d6 co sq bl sp cr w
  · exact unu_8 ki ks tg la fa su sz n d0 d1 d2 d3 d4 d5 d6 co sq bl sp cr w
  · exact unu_9 ki ks tg la fa su sz n d0 d1 d2 d3 d4 d5 d6 co sq bl sp cr w
  · exact unu_10 ki ks tg la fa su sz n d0 d1 d2 d3 d4 d5 d6 co sq bl sp cr w
  · exact unu_11 ki ks tg la fa su sz n d0 d1 d2 d3 d4 d5 d6 co sq bl sp cr w
  · exact unu_12 ki ks tg la fa su sz n d0 d1 d2 d3 d4 d5 d6 co sq bl sp cr w
  · exact unu_13 ki ks tg la fa su sz n d0 d1 d2 d3 d4 d5 d6 co sq bl sp cr w
  · exact unu_14 ki ks tg la fa su sz n d0 d1 d2 d3 d4 d5 d6 co sq bl sp cr w
  · exact unu_15 ki ks tg la fa su sz n d0 d1 d2 d3 d4 d5 d6 co sq bl sp cr w
  · exact unu_16 ki ks tg la fa su sz n d0 d1 d2 d3 d4 d5 d6 co sq bl sp cr w
  · exact unu_17 ki ks tg la fa su sz n d0 d1 d2 d3 d4 d5 d6 co sq bl sp cr w
set_option maxRecDepth 100000 in
theorem ren_out (c ki ks : Int) (tg la fa su : Bool) (sz n d0 d1 d2 d3 d4 d5 d6 co sq bl sp cr : Int) (hc : c < 1 ∨ 17 < c) (w : World) : Calls Try.prog 7 #[.agg #[.int .i64 c, .int .i64 ki, .int .i64 ks, .bool tg, .bool la, .bool fa, .bool su, .int .i64 sz, .int .i64 n, .int .u8 d0, .int .u8 d1, .int .u8 d2, .int .u8 d3, .int .u8 d4, .int .u8 d5, .int .u8 d6, .int .i64 co, .int .i64 sq, .int .i64 bl, .int .i64 sp, .int .i64 cr]] w fun e w' => e = .returned (.tuple #[.agg (lnA []), .int .i64 2]) ∧ Below w.heap.size w w' := by
  have hrw := fun w => rowx_out c hc w
  have hrx : ∃ RX : Array Value, #[.int .i64 0, .bool false, .bool false, .bool false, .bool false, .bool false, .bool false, .bool false, .bool false, .bool false, .bool false] = RX := ⟨_, rfl⟩
  have hmx : ∃ MA : Array Value, #[.int .i64 c, .int .i64 ki, .int .i64 ks, .bool tg, .bool la, .bool fa, .bool su, .int .i64 sz, .int .i64 n, .int .u8 d0, .int .u8 d1, .int .u8 d2, .int .u8 d3, .int .u8 d4, .int .u8 d5, .int .u8 d6, .int .i64 co, .int .i64 sq, .int .i64 bl, .int .i64 sp, .int .i64 cr] = MA := ⟨_, rfl⟩
  obtain ⟨MA, hMA⟩ := hmx
  obtain ⟨RX, hRX⟩ := hrx
  have hro : RX.all (·.oneCell') = true := by rw [← hRX]; exact one_rowx _ _ _ _ _ _ _ _ _ _ _
  have hrs : (Try.prog.info? 49).map (·.size) = some RX.size := by rw [← hRX]; exact info_rowx
  have hrz : (11 : Nat) = RX.size := by rw [← hRX]; rfl
  have him : (Try.prog.info? 28).map (·.size) = some MA.size := by rw [← hMA]; exact info_msg
  rw [hRX] at hrw
  have HRW := Lib.hid hrw
  have HRO := Lib.hid hro
  have HIR := Lib.hid hrs
  have HRZ := Lib.hid hrz
  have HIM := Lib.hid him
  clear hrw hro hrs hrz him
  go_enter Try.func7, Try.ntmps7
  rw [hMA]
  have hm0 : MA[0]? = some (.int .i64 c) := by rw [← hMA]; rfl
  clear hMA hRX hc
  go_wp2_with fail
  generalize hx0 : ((w.alloc (.cells MA 28)).alloc (.cells #[.int .u8 0, .int .u8 0, .int .u8 0, .int .u8 0, .int .u8 0, .int .u8 0, .int .u8 0, .int .u8 0] 30)).alloc (.cells #[.int .u8 0, .int .u8 0, .int .u8 0, .int .u8 0, .int .u8 0, .int .u8 0, .int .u8 0, .int .u8 0] 30) = x0 at *
  have HQ := Lib.hid (eb_start hx0)
  clear hx0
  refine (HRW.out x0).mono ?_
  rintro e w1 ⟨rfl, hb1⟩
  have HS0 := Lib.hid (HQ.out.row hb1)
  have HS := Lib.hid (HS0.out.told RX)
  clear hb1 HQ hm0
  go_upto_region 3 with (refine wpList_store_row rfl 49 (.tmp 5) (.tmp 13) rfl w1.heap.size RX rfl rfl _ _ HS0.out.hr HIR.out HRZ.out HRO.out ?_)
  clear HS0
  generalize (w1.alloc (.cells #[.int .i64 0, .bool false, .bool false, .bool false, .bool false, .bool false, .bool false, .bool false, .bool false, .bool false, .bool false] 49)).setRow w1.heap.size RX = x1 at *
  generalize w1.heap.size = gr at *
  go_wp2_with (first
    | (refine wpList_load_row rfl 30 (.tmp 4) rfl (w.heap.size + 2) rfl _ _ _ _ HS.out.hl Try.underlying30 rfl info_line ?_)
    | (refine wpList_store_row rfl 30 (.tmp 2) (.tmp 17) rfl (w.heap.size + 1) (lnA []) rfl rfl _ _ HS.out.hz info_line rfl (ln_one _) ?_))
  exact bodyPost_ret ((results_cell_tmp_row rfl _ _ (w.heap.size + 1) _ _ _ _ rfl (HS.out.hz.set _) Try.underlying30 rfl info_line).trans (by rfl)) rfl ⟨rfl, below_setRow HS.out.hb (by omega) _⟩
set_option maxRecDepth 100000 in
theorem ren_rng (c ki ks : Int) (tg la fa su : Bool) (sz n d0 d1 d2 d3 d4 d5 d6 co sq bl sp cr : Int) (hc : 1 ≤ c ∧ c ≤ 17) (hr : rngE c ki ks fa sz n co sq bl sp cr = false) (w : World) : Calls Try.prog 7 #[.agg #[.int .i64 c, .int .i64 ki, .int .i64 ks, .bool tg, .bool la, .bool fa, .bool su, .int .i64 sz, .int .i64 n, .int .u8 d0, .int .u8 d1, .int .u8 d2, .int .u8 d3, .int .u8 d4, .int .u8 d5, .int .u8 d6, .int .i64 co, .int .i64 sq, .int .i64 bl, .int .i64 sp, .int .i64 cr]] w fun e w' => e = .returned (.tuple #[.agg (lnA []), .int .i64 3]) ∧ Below w.heap.size w w' := by
  have hrw := fun w => rowx_any c hc w
  have hrx : ∃ RX : Array Value, rowX c = RX := ⟨_, rfl⟩
  have hrg := fun w => rng_any c ki ks tg la fa su sz n d0 d1 d2 d3 d4 d5 d6 co sq bl sp cr hc w
  rw [hr] at hrg
  have hmx : ∃ MA : Array Value, #[.int .i64 c, .int .i64 ki, .int .i64 ks, .bool tg, .bool la, .bool fa, .bool su, .int .i64 sz, .int .i64 n, .int .u8 d0, .int .u8 d1, .int .u8 d2, .int .u8 d3, .int .u8 d4, .int .u8 d5, .int .u8 d6, .int .i64 co, .int .i64 sq, .int .i64 bl, .int .i64 sp, .int .i64 cr] = MA := ⟨_, rfl⟩
  obtain ⟨MA, hMA⟩ := hmx
  obtain ⟨RX, hRX⟩ := hrx
  have hro : RX.all (·.oneCell') = true := by rw [← hRX]; exact rowx_one c hc
  have hrs : (Try.prog.info? 49).map (·.size) = some RX.size := by rw [← hRX]; rw [rowx_size c hc]; exact info_rowx
  have hrz : (11 : Nat) = RX.size := by rw [← hRX]; rw [rowx_size c hc]
  have him : (Try.prog.info? 28).map (·.size) = some MA.size := by rw [← hMA]; exact info_msg
  rw [hRX] at hrw hrg
  rw [hMA] at hrg
  have HRW := Lib.hid hrw
  have HRO := Lib.hid hro
  have HIR := Lib.hid hrs
  have HRZ := Lib.hid hrz
  have HIM := Lib.hid him
  clear hrw hro hrs hrz him
  have HRG := Lib.hid hrg
  clear hrg hr
  go_enter Try.func7, Try.ntmps7
  rw [hMA]
  have hm0 : MA[0]? = some (.int .i64 c) := by rw [← hMA]; rfl
  clear hMA hRX hc
  go_wp2_with fail
  generalize hx0 : ((w.alloc (.cells MA 28)).alloc (.cells #[.int .u8 0, .int .u8 0, .int .u8 0, .int .u8 0, .int .u8 0, .int .u8 0, .int .u8 0, .int .u8 0] 30)).alloc (.cells #[.int .u8 0, .int .u8 0, .int .u8 0, .int .u8 0, .int .u8 0, .int .u8 0, .int .u8 0, .int .u8 0] 30) = x0 at *
  have HQ := Lib.hid (eb_start hx0)
  clear hx0
  refine (HRW.out x0).mono ?_
  rintro e w1 ⟨rfl, hb1⟩
  have HS0 := Lib.hid (HQ.out.row hb1)
  have HS := Lib.hid (HS0.out.told RX)
  clear hb1 HQ hm0
  go_upto_region 3 with (refine wpList_store_row rfl 49 (.tmp 5) (.tmp 13) rfl w1.heap.size RX rfl rfl _ _ HS0.out.hr HIR.out HRZ.out HRO.out ?_)
  clear HS0
  generalize (w1.alloc (.cells #[.int .i64 0, .bool false, .bool false, .bool false, .bool false, .bool false, .bool false, .bool false, .bool false, .bool false, .bool false] 49)).setRow w1.heap.size RX = x1 at *
  generalize w1.heap.size = gr at *
  go_wp2_with (first
      | (refine wpList_load_row rfl 28 (.tmp 1) rfl w.heap.size rfl _ _ _ _ HS.out.hm Try.underlying28 rfl HIM.out ?_)
      | (refine wpList_load_row rfl 49 (.tmp 5) rfl gr rfl _ _ _ _ HS.out.hr Try.underlying49 rfl HIR.out ?_))
  refine (HRG.out _).mono ?_
  rintro e y0 ⟨rfl, hy⟩
  have HS1 := Lib.hid (HS.out.below hy)
  clear HS hy
  have HS := HS1
  clear HS1
  go_wp2_with (first
    | (refine wpList_load_row rfl 30 (.tmp 4) rfl (w.heap.size + 2) rfl _ _ _ _ HS.out.hl Try.underlying30 rfl info_line ?_)
    | (refine wpList_store_row rfl 30 (.tmp 2) (.tmp 22) rfl (w.heap.size + 1) (lnA []) rfl rfl _ _ HS.out.hz info_line rfl (ln_one _) ?_))
  exact bodyPost_ret ((results_cell_tmp_row rfl _ _ (w.heap.size + 1) _ _ _ _ rfl (HS.out.hz.set _) Try.underlying30 rfl info_line).trans (by rfl)) rfl ⟨rfl, below_setRow HS.out.hb (by omega) _⟩
set_option maxRecDepth 100000 in
theorem ren_unu (c ki ks : Int) (tg la fa su : Bool) (sz n d0 d1 d2 d3 d4 d5 d6 co sq bl sp cr : Int) (hc : 1 ≤ c ∧ c ≤ 17) (hr : rngE c ki ks fa sz n co sq bl sp cr = true) (hu : unuE c ki ks tg la fa su sz n d0 d1 d2 d3 d4 d5 d6 co sq bl sp cr = false) (w : World) : Calls Try.prog 7 #[.agg #[.int .i64 c, .int .i64 ki, .int .i64 ks, .bool tg, .bool la, .bool fa, .bool su, .int .i64 sz, .int .i64 n, .int .u8 d0, .int .u8 d1, .int .u8 d2, .int .u8 d3, .int .u8 d4, .int .u8 d5, .int .u8 d6, .int .i64 co, .int .i64 sq, .int .i64 bl, .int .i64 sp, .int .i64 cr]] w fun e w' => e = .returned (.tuple #[.agg (lnA []), .int .i64 4]) ∧ Below w.heap.size w w' := by
  have hrw := fun w => rowx_any c hc w
  have hrx : ∃ RX : Array Value, rowX c = RX := ⟨_, rfl⟩
  have hrg := fun w => rng_any c ki ks tg la fa su sz n d0 d1 d2 d3 d4 d5 d6 co sq bl sp cr hc w
  have hun := fun w => unu_any c ki ks tg la fa su sz n d0 d1 d2 d3 d4 d5 d6 co sq bl sp cr hc w
  rw [hr] at hrg
  rw [hu] at hun
  have hmx : ∃ MA : Array Value, #[.int .i64 c, .int .i64 ki, .int .i64 ks, .bool tg, .bool la, .bool fa, .bool su, .int .i64 sz, .int .i64 n, .int .u8 d0, .int .u8 d1, .int .u8 d2, .int .u8 d3, .int .u8 d4, .int .u8 d5, .int .u8 d6, .int .i64 co, .int .i64 sq, .int .i64 bl, .int .i64 sp, .int .i64 cr] = MA := ⟨_, rfl⟩
  obtain ⟨MA, hMA⟩ := hmx
  obtain ⟨RX, hRX⟩ := hrx
  have hro : RX.all (·.oneCell') = true := by rw [← hRX]; exact rowx_one c hc
  have hrs : (Try.prog.info? 49).map (·.size) = some RX.size := by rw [← hRX]; rw [rowx_size c hc]; exact info_rowx
  have hrz : (11 : Nat) = RX.size := by rw [← hRX]; rw [rowx_size c hc]
  have him : (Try.prog.info? 28).map (·.size) = some MA.size := by rw [← hMA]; exact info_msg
  rw [hRX] at hrw hrg hun
  rw [hMA] at hrg hun
  have HRW := Lib.hid hrw
  have HRO := Lib.hid hro
  have HIR := Lib.hid hrs
  have HRZ := Lib.hid hrz
  have HIM := Lib.hid him
  clear hrw hro hrs hrz him
  have HRG := Lib.hid hrg
  clear hrg hr
  have HUN := Lib.hid hun
  clear hun hu
  go_enter Try.func7, Try.ntmps7
  rw [hMA]
  have hm0 : MA[0]? = some (.int .i64 c) := by rw [← hMA]; rfl
  clear hMA hRX hc
  go_wp2_with fail
  generalize hx0 : ((w.alloc (.cells MA 28)).alloc (.cells #[.int .u8 0, .int .u8 0, .int .u8 0, .int .u8 0, .int .u8 0, .int .u8 0, .int .u8 0, .int .u8 0] 30)).alloc (.cells #[.int .u8 0, .int .u8 0, .int .u8 0, .int .u8 0, .int .u8 0, .int .u8 0, .int .u8 0, .int .u8 0] 30) = x0 at *
  have HQ := Lib.hid (eb_start hx0)
  clear hx0
  refine (HRW.out x0).mono ?_
  rintro e w1 ⟨rfl, hb1⟩
  have HS0 := Lib.hid (HQ.out.row hb1)
  have HS := Lib.hid (HS0.out.told RX)
  clear hb1 HQ hm0
  go_upto_region 3 with (refine wpList_store_row rfl 49 (.tmp 5) (.tmp 13) rfl w1.heap.size RX rfl rfl _ _ HS0.out.hr HIR.out HRZ.out HRO.out ?_)
  clear HS0
  generalize (w1.alloc (.cells #[.int .i64 0, .bool false, .bool false, .bool false, .bool false, .bool false, .bool false, .bool false, .bool false, .bool false, .bool false] 49)).setRow w1.heap.size RX = x1 at *
  generalize w1.heap.size = gr at *
  go_wp2_with (first
      | (refine wpList_load_row rfl 28 (.tmp 1) rfl w.heap.size rfl _ _ _ _ HS.out.hm Try.underlying28 rfl HIM.out ?_)
      | (refine wpList_load_row rfl 49 (.tmp 5) rfl gr rfl _ _ _ _ HS.out.hr Try.underlying49 rfl HIR.out ?_))
  refine (HRG.out _).mono ?_
  rintro e y0 ⟨rfl, hy⟩
  have HS1 := Lib.hid (HS.out.below hy)
  clear HS hy
  have HS := HS1
  clear HS1
  go_wp2_with (first
      | (refine wpList_load_row rfl 28 (.tmp 1) rfl w.heap.size rfl _ _ _ _ HS.out.hm Try.underlying28 rfl HIM.out ?_)
      | (refine wpList_load_row rfl 49 (.tmp 5) rfl gr rfl _ _ _ _ HS.out.hr Try.underlying49 rfl HIR.out ?_))
  refine (HUN.out _).mono ?_
  rintro e y1 ⟨rfl, hy⟩
  have HS1 := Lib.hid (HS.out.below hy)
  clear HS hy
  have HS := HS1
  clear HS1
  go_wp2_with (first
    | (refine wpList_load_row rfl 30 (.tmp 4) rfl (w.heap.size + 2) rfl _ _ _ _ HS.out.hl Try.underlying30 rfl info_line ?_)
    | (refine wpList_store_row rfl 30 (.tmp 2) (.tmp 27) rfl (w.heap.size + 1) (lnA []) rfl rfl _ _ HS.out.hz info_line rfl (ln_one _) ?_))
  exact bodyPost_ret ((results_cell_tmp_row rfl _ _ (w.heap.size + 1) _ _ _ _ rfl (HS.out.hz.set _) Try.underlying30 rfl info_line).trans (by rfl)) rfl ⟨rfl, below_setRow HS.out.hb (by omega) _⟩
end Go.Proofs.Ytfccjekhdfpkoaa
