/- A message and a line as arguments: opened. -/
import Derived.Test.YtoamgdcjmkkmfaaKp
import Derived.Lib.SmallJoins
import Derived.Test.YtoamgdcjmkkmfaaKt
set_option linter.unusedSimpArgs false
set_option linter.unusedVariables false
namespace Go.Proofs.Ytoamgdcjmkkmfaa
open Go.RowKit Go.Joins Go.ChangeShapes Go.WideShapes
set_option maxHeartbeats 4000000

theorem cells_lineU : Try.prog.cellsOf 23 = 8 := by kernel_rfl
theorem array8 {α : Type} {cs : Array α} (h : cs.size = 8) : ∃ c0 c1 c2 c3 c4 c5 c6 c7, cs = #[c0, c1, c2, c3, c4, c5, c6, c7] := by
  obtain ⟨l⟩ := cs
  match l, h with
  | [c0, c1, c2, c3, c4, c5, c6, c7], _ => exact ⟨c0, c1, c2, c3, c4, c5, c6, c7, rfl⟩
section
variable {H : Type} {enc : TypeId × Value → H} {w : World} {base : Nat} {spare : Nat → Bool} {held : Bool}
theorem okWide_arr {P : Program} {r : Reach} {b0 : Nat} {t e : TypeId} {n : Nat} {v : Value} (ht : P.underlying t = some (.array n e)) (h : Value.okWide P w r b0 t v) : ∃ cs, v = .agg cs ∧ cs.size = P.cellsOf t := by
  simp only [Value.okWide, ht] at h
  obtain ⟨cs, h1, h2, _⟩ := h
  exact ⟨cs, h1, h2⟩
set_option maxRecDepth 100000 in
theorem open_line {r : Reach} {b0 : Nat} {v : Value} {dd : DataW H} {p : List MemPlace} (hv : Value.okWide Try.prog w r b0 23 v) (h : DataW.Trod enc Try.prog w base spare held 23 v dd p) :
    ∃ l : List Int, v = .agg (lnA l) ∧ Byte8 l := by
  obtain ⟨cs, rfl, hsz⟩ := okWide_arr Try.underlying23 hv
  obtain ⟨c0, c1, c2, c3, c4, c5, c6, c7, rfl⟩ := array8 (hsz.trans cells_lineU)
  obtain ⟨fuel, hf⟩ := h
  obtain ⟨xs, m3, _, _, _, hlen, hall⟩ := DataW.trod_array Try.underlying23 hf
  simp only [cells_byte, Value.cells] at hall
  have hb : ∀ i, i < 8 → ∃ b, ((([c0, c1, c2, c3, c4, c5, c6, c7] : List Value).drop i).take 1) = [.int .u8 b] ∧ 0 ≤ b ∧ b ≤ 255 := fun i hi => by
    have h := hall i hi
    rw [List.getElem?_eq_getElem (show i < xs.length by omega)] at h
    obtain ⟨b, e, _, wb⟩ := DataW.trod_int Try.underlying5 h
    have := bounds_u8 wb
    exact ⟨b, by simpa using e, by omega, by omega⟩
  obtain ⟨b0, g0, i0⟩ := hb 0 (by omega)
  obtain ⟨b1, g1, i1⟩ := hb 1 (by omega)
  obtain ⟨b2, g2, i2⟩ := hb 2 (by omega)
  obtain ⟨b3, g3, i3⟩ := hb 3 (by omega)
  obtain ⟨b4, g4, i4⟩ := hb 4 (by omega)
  obtain ⟨b5, g5, i5⟩ := hb 5 (by omega)
  obtain ⟨b6, g6, i6⟩ := hb 6 (by omega)
  obtain ⟨b7, g7, i7⟩ := hb 7 (by omega)
  simp at g0 g1 g2 g3 g4 g5 g6 g7
  subst g0 g1 g2 g3 g4 g5 g6 g7
  refine ⟨[b0, b1, b2, b3, b4, b5, b6, b7], rfl, byte8_of (fun x hx => ?_)⟩
  simp only [List.mem_cons, List.not_mem_nil, or_false] at hx
  rcases hx with rfl | rfl | rfl | rfl | rfl | rfl | rfl | rfl <;> assumption
end
end Go.Proofs.Ytoamgdcjmkkmfaa
namespace Go.Proofs.Ytoamgdcjmkkmfaa
open Go.RowKit
set_option maxHeartbeats 4000000

def lm0 : Ms := (⟨1, 8192, 1, false, false, true, false, 0, 1, 0, 0, 0, 0, 0, 0, 0, 0, 0, 0, 0, 0⟩ : Ms)
def lm1 : Ms := (⟨1, 8192, 1, false, false, true, false, 0, 1, 5, 0, 0, 0, 0, 0, 0, 0, 0, 0, 0, 0⟩ : Ms)
theorem live_enc : encM lm1 = ([47, 0, 32, 1, 5], 0) := by decide +kernel
theorem live_quit : putM (quitM 0 0 84082688) = ([128, 0, 0, 0, 0, 0, 3, 5], true) := by decide +kernel
theorem lm1_B : MsB lm1 := by
  intro x hx
  simp [lm1, Ms.d, dL] at hx
  omega
set_option maxRecDepth 20000 in
theorem live17_any (w : World) : Calls Try.prog 6 #[] w fun e w' => e = .returned (.bool true) ∧ Below w.heap.size w w' := by
  have hz : (w.alloc (.cells #[.int .i64 0, .int .i64 0, .int .i64 0, .bool false, .bool false, .bool false, .bool false, .int .i64 0, .int .i64 0, .int .u8 0, .int .u8 0, .int .u8 0, .int .u8 0, .int .u8 0, .int .u8 0, .int .u8 0, .int .i64 0, .int .i64 0, .int .i64 0, .int .i64 0, .int .i64 0] 30)).heap[w.heap.size]? = some (.cells (mAr ⟨0, 0, 0, false, false, false, false, 0, 0, 0, 0, 0, 0, 0, 0, 0, 0, 0, 0, 0, 0⟩) 30 (0, 0)) := heap_alloc_new w (.cells #[.int .i64 0, .int .i64 0, .int .i64 0, .bool false, .bool false, .bool false, .bool false, .int .i64 0, .int .i64 0, .int .u8 0, .int .u8 0, .int .u8 0, .int .u8 0, .int .u8 0, .int .u8 0, .int .u8 0, .int .i64 0, .int .i64 0, .int .i64 0, .int .i64 0, .int .i64 0] 30)
  have hm := setRow_heap _ w.heap.size _ (mAr lm0) _ _ hz
  have hm1 : ((_root_.Go.World.setRow (w.alloc (.cells #[.int .i64 0, .int .i64 0, .int .i64 0, .bool false, .bool false, .bool false, .bool false, .int .i64 0, .int .i64 0, .int .u8 0, .int .u8 0, .int .u8 0, .int .u8 0, .int .u8 0, .int .u8 0, .int .u8 0, .int .i64 0, .int .i64 0, .int .i64 0, .int .i64 0, .int .i64 0] 30)) w.heap.size (mAr lm0)).setCell ⟨w.heap.size, 9, none⟩ (.int .u8 5)).heap[w.heap.size]? = some (.cells (mAr lm1) 30 (0, 0)) := blk_set hm
  have hb1 : Below w.heap.size w ((_root_.Go.World.setRow (w.alloc (.cells #[.int .i64 0, .int .i64 0, .int .i64 0, .bool false, .bool false, .bool false, .bool false, .int .i64 0, .int .i64 0, .int .u8 0, .int .u8 0, .int .u8 0, .int .u8 0, .int .u8 0, .int .u8 0, .int .u8 0, .int .i64 0, .int .i64 0, .int .i64 0, .int .i64 0, .int .i64 0] 30)) w.heap.size (mAr lm0)).setCell ⟨w.heap.size, 9, none⟩ (.int .u8 5)) := (below_setRow ((Below.refl _ _).alloc (Nat.le_refl _) _) (Nat.le_refl _) _).setCell (p := ⟨w.heap.size, 9, none⟩) (Nat.le_refl _) _
  have hen := fun w => encode_any lm1 lm1_B w
  rw [live_enc] at hen
  have hab := fun w => abort_any 0 0 84082688 w
  rw [live_quit] at hab
  have hc1 := fun w => run_eqL [47, 0, 32, 1, 5] [47, 0, 32, 1, 5] w
  have hc2 := fun w => run_eqL [128, 0, 0, 0, 0, 0, 3, 5] [128, 0, 0, 0, 0, 0, 3, 5] w
  have k9 : (_root_.Go.World.setRow (w.alloc (.cells #[.int .i64 0, .int .i64 0, .int .i64 0, .bool false, .bool false, .bool false, .bool false, .int .i64 0, .int .i64 0, .int .u8 0, .int .u8 0, .int .u8 0, .int .u8 0, .int .u8 0, .int .u8 0, .int .u8 0, .int .i64 0, .int .i64 0, .int .i64 0, .int .i64 0, .int .i64 0] 30)) w.heap.size (mAr lm0)).cell? ⟨w.heap.size, 9, none⟩ = some (.int .u8 0) := by rw [cell_of_row _ _ _ _ _ _ hm]; rfl
  have f9 : (_root_.Go.World.setRow (w.alloc (.cells #[.int .i64 0, .int .i64 0, .int .i64 0, .bool false, .bool false, .bool false, .bool false, .int .i64 0, .int .i64 0, .int .u8 0, .int .u8 0, .int .u8 0, .int .u8 0, .int .u8 0, .int .u8 0, .int .u8 0, .int .i64 0, .int .i64 0, .int .i64 0, .int .i64 0, .int .i64 0] 30)) w.heap.size (mAr lm0)).frozen? ⟨w.heap.size, 9, none⟩ = false := frozen_of_row _ _ _ _ _ hm
  have HZ := Lib.hid hz
  have HM1 := Lib.hid hm1
  have HB1 := Lib.hid hb1
  have HEN := Lib.hid hen
  have HAB := Lib.hid hab
  have HC1 := Lib.hid hc1
  have HC2 := Lib.hid hc2
  clear hz hm hm1 hb1 hen hab hc1 hc2
  go_enter Try.func6, Try.ntmps6
  go_wp2_with (first
    | (refine wpList_store_row rfl 30 (.tmp 1) (.tmp 5) rfl w.heap.size (mAr lm0) rfl rfl _ _ HZ.out info_msg rfl (mAr_one _) ?_)
    | (refine wpList_load_row rfl 30 (.tmp 1) rfl w.heap.size rfl _ _ _ _ HM1.out Try.underlying30 rfl info_msg ?_))
  refine (HEN.out _).mono ?_
  rintro e w1 ⟨rfl, hb2⟩
  have HN1 := Lib.hid (ln_zero w1)
  have HB2 := Lib.hid (below_setRow ((HB1.out.trans (hb2.mono HB1.out.size)).alloc (Nat.le_trans HB1.out.size hb2.size) (.cells #[.int .u8 0, .int .u8 0, .int .u8 0, .int .u8 0, .int .u8 0, .int .u8 0, .int .u8 0, .int .u8 0] 23)) (show w.heap.size ≤ w1.heap.size from Nat.le_trans HB1.out.size hb2.size) (lnA [47, 0, 32, 1, 5]))
  clear hb2 k9 f9
  have hc1 : ∀ w : World, (Op.equalIn 10000 23 (.agg (lnA [47, 0, 32, 1, 5])) (.agg #[.int .u8 47, .int .u8 0, .int .u8 32, .int .u8 1, .int .u8 5, .int .u8 0, .int .u8 0, .int .u8 0])).run Try.prog w = .ok true w := HC1.out
  have hc2 : ∀ w : World, (Op.equalIn 10000 23 (.agg (lnA [128, 0, 0, 0, 0, 0, 3, 5])) (.agg #[.int .u8 128, .int .u8 0, .int .u8 0, .int .u8 0, .int .u8 0, .int .u8 0, .int .u8 3, .int .u8 5])).run Try.prog w = .ok true w := HC2.out
  go_wp2_with (first
    | (refine wpList_store_row rfl 23 (.tmp 2) (.tmp 11) rfl w1.heap.size (lnA [47, 0, 32, 1, 5]) rfl rfl _ _ HN1.out info_line rfl (ln_one _) ?_)
    | (refine wpList_step (fun K hK => Eq.mpr (if_pos (by kernel_rfl)) (wp_load_row 23 (.tmp 2) rfl w1.heap.size rfl _ _ _ _ (setRow_heap _ _ _ (lnA [47, 0, 32, 1, 5]) _ _ HN1.out) Try.underlying23 rfl info_line (hK _ _ ?_))))
    | (go_at_call 15; refine (HAB.out _).mono ?_; rintro e w2 ⟨rfl, hb3⟩))
  go_ret
  exact ⟨rfl, HB2.out.trans (hb3.mono HB2.out.size)⟩
end Go.Proofs.Ytoamgdcjmkkmfaa
