/- A number's bytes in a line: what the document's put answers. -/
import Derived.Test.YtoamgdcjmkkmfaaKl2
import Derived.Deep.CutBlock
import Derived.Test.YtoamgdcjmkkmfaaKz
set_option linter.unusedSimpArgs false
set_option linter.unusedVariables false
namespace Go.Proofs.Ytoamgdcjmkkmfaa
open Go.RowKit
set_option maxHeartbeats 4000000
def setL (L : List Int) (i : Nat) (x : Int) : List Int := (List.range 8).map fun j => if j = i then x else L.getD j 0
theorem ln_set (L : List Int) (i : Nat) (x : Int) (h : i < 8) : (lnA L).setIfInBounds i (.int .u8 x) = lnA (setL L i x) := by
  have : i = 0 ∨ i = 1 ∨ i = 2 ∨ i = 3 ∨ i = 4 ∨ i = 5 ∨ i = 6 ∨ i = 7 := by omega
  rcases this with rfl | rfl | rfl | rfl | rfl | rfl | rfl | rfl <;> rfl
theorem ln_at (L : List Int) (i : Nat) (h : i < 8) : (lnA L)[i]? = some (.int .u8 (L.getD i 0)) := by
  have : i = 0 ∨ i = 1 ∨ i = 2 ∨ i = 3 ∨ i = 4 ∨ i = 5 ∨ i = 6 ∨ i = 7 := by omega
  rcases this with rfl | rfl | rfl | rfl | rfl | rfl | rfl | rfl <;> rfl
theorem LnAt.one {w : World} {g : Nat} {L : List Int} (h : LnAt w g L) (i : Nat) (x : Int) (hi : i < 8) : LnAt (w.setCell ⟨g, i, none⟩ (.int .u8 x)) g (setL L i x) := by
  have := blk_set (k := i) (v := .int .u8 x) h
  rw [ln_set L i x hi] at this
  exact this
theorem LnAt.cell {w : World} {g : Nat} {L : List Int} (h : LnAt w g L) (i : Nat) (hi : i < 8) : w.cell? ⟨g, i, none⟩ = some (.int .u8 (L.getD i 0)) := by
  rw [cell_of_row _ _ _ _ _ _ h]; exact ln_at L i hi
theorem LnAt.frozen {w : World} {g : Nat} {L : List Int} (h : LnAt w g L) (i : Nat) : w.frozen? ⟨g, i, none⟩ = false := frozen_of_row _ _ _ _ _ h
def putR : Nat → List Int → Nat → Int → List Int
  | 0, L, _, _ => L
  | q + 1, L, a, n => putR q (setL L a (n % 256)) (a + 1) (n / 256)
set_option maxRecDepth 100000 in
theorem rput17_any (w : World) (L : List Int) (a q : Nat) (n : Int) (h : a + q ≤ 8) (hn : 0 ≤ n ∧ n ≤ 4294967295) :
    Calls Try.prog 27 #[.agg (lnA L), .int .i64 a, .int .i64 q, .int .i64 n] w fun e w' => e = .returned (.agg (lnA (putR q L a n))) ∧ Below w.heap.size w w' := by
  have hl0 : LnAt ((w.alloc (.cells (lnA L) 23)).alloc (.cells #[.int .u8 0, .int .u8 0, .int .u8 0, .int .u8 0, .int .u8 0, .int .u8 0, .int .u8 0, .int .u8 0] 23)) w.heap.size L := LnAt.alloc (heap_alloc_new w _) _
  have hz0 : LnAt ((w.alloc (.cells (lnA L) 23)).alloc (.cells #[.int .u8 0, .int .u8 0, .int .u8 0, .int .u8 0, .int .u8 0, .int .u8 0, .int .u8 0, .int .u8 0] 23)) (w.heap.size + 1) [] := by have := ln_zero (w.alloc (.cells (lnA L) 23)); simpa using this
  have hb0 : Below w.heap.size w ((w.alloc (.cells (lnA L) 23)).alloc (.cells #[.int .u8 0, .int .u8 0, .int .u8 0, .int .u8 0, .int .u8 0, .int .u8 0, .int .u8 0, .int .u8 0] 23)) := ((Below.refl _ _).alloc (Nat.le_refl _) _).alloc (by simp) _
  have HL0 := Lib.hid hl0
  have HZ0 := Lib.hid hz0
  have HB0 := Lib.hid hb0
  clear hl0 hz0 hb0
  have HH := Lib.hid h
  have HN := Lib.hid hn
  have hq8 : q ≤ 8 := by omega
  have ha8 : a ≤ 8 := by omega
  clear h hn
  go_enter Try.func27, Try.ntmps27
  generalize hL : lnA L = LA at *
  go_wp2_with fail
  generalize (w.alloc (.cells LA 23)).alloc (.cells #[.int .u8 0, .int .u8 0, .int .u8 0, .int .u8 0, .int .u8 0, .int .u8 0, .int .u8 0, .int .u8 0] 23) = w0 at *
  clear hL
  go_loopw [3, 9] (fun t3 t9 wr => ∃ (p : Nat) (m : Int) (M : List Int), p ≤ q ∧ t3 = .int .i64 m ∧ t9 = .int .i64 p ∧ 0 ≤ m ∧ m ≤ 4294967295 ∧ Hid (putR q L a n = putR (q - p) M (a + p) m) ∧ Hid (LnAt wr w.heap.size M) ∧ Hid (LnAt wr (w.heap.size + 1) []) ∧ Hid (Below w.heap.size w wr)) (fun _ t _ => q - (intOf t).toNat)
  case atStart => exact ⟨0, n, L, by omega, rfl, rfl, HN.out.1, HN.out.2, Lib.hid rfl, HL0, HZ0, HB0⟩
  case round =>
    clear HL0 HZ0 HB0
    obtain ⟨p, m, M, hp, rfl, rfl, hm0, hm1, HR, HM, HZ, HB⟩ := hrel
    by_cases hlt : p < q
    · have hi8 : a + p < 8 := by have := HH.out; omega
      have c0 := HM.out.cell (a + p) hi8
      have f0 := HM.out.frozen (a + p)
      have e1 : Int.tmod m 256 = m % 256 := Int.tmod_eq_emod_of_nonneg hm0
      have e2 : Int.tdiv m 256 = m / 256 := Int.tdiv_eq_ediv_of_nonneg hm0
      have HS : Hid (putR q L a n = putR (q - (p + 1)) (setL M (a + p) (m % 256)) (a + (p + 1)) (m / 256)) := Lib.hid (by
        rw [HR.out, show q - p = (q - (p + 1)) + 1 by omega]; rfl)
      have HM2 := Lib.hid (HM.out.one (a + p) (m % 256) hi8)
      have HZ2 : Hid (LnAt (wr.setCell ⟨w.heap.size, a + p, none⟩ (.int .u8 (m % 256))) (w.heap.size + 1) []) := Lib.hid ((set_other _ (by omega)).trans HZ.out)
      have HB2 := Lib.hid (HB.out.setCell (p := ⟨w.heap.size, a + p, none⟩) (Nat.le_refl _) (.int .u8 (m % 256)))
      go_wp2_with fail
      exact ⟨⟨p + 1, m / 256, setL M (a + p) (m % 256), by omega, rfl, by go_num, by omega, by omega, HS, HM2, HZ2, HB2⟩, by simp [intOf]; omega⟩
    · have HQ : Hid (putR q L a n = M) := Lib.hid (by rw [HR.out, show q - p = 0 by omega]; rfl)
      go_wp2_with (first
        | (refine wpList_load_row rfl 23 (.tmp 4) rfl w.heap.size rfl _ _ _ _ HM.out Try.underlying23 rfl info_line ?_)
        | (refine wpList_store_row rfl _ (.tmp 8) (.tmp 24) rfl (w.heap.size + 1) (lnA M) rfl rfl _ _ HZ.out info_line rfl (ln_one _) ?_))
      rw [HQ.out]
      exact bodyPost_ret (results_cell_row rfl _ _ (w.heap.size + 1) _ _ _ _ rfl (setRow_heap _ _ _ (lnA M) _ _ HZ.out) Try.underlying23 rfl info_line) rfl ⟨rfl, below_setRow HB.out (show w.heap.size ≤ w.heap.size + 1 by omega) _⟩
end Go.Proofs.Ytoamgdcjmkkmfaa
namespace Go.Proofs.Ytoamgdcjmkkmfaa
open Go.RowKit
set_option maxHeartbeats 4000000
theorem rhd_1f (ki ks sz d0 d1 d2 d3 d4 d5 d6 : Int) (hki : 0 ≤ ki ∧ ki ≤ 65535) (hks : 0 ≤ ks ∧ ks ≤ 255) (hsz : -1 ≤ sz ∧ sz ≤ 4294967295) (w : World) : Calls Try.prog 28 #[.agg #[.int .i64 1, .int .i64 ki, .int .i64 ks, .bool false, .bool false, .bool false, .bool false, .int .i64 sz, .int .i64 0, .int .u8 d0, .int .u8 d1, .int .u8 d2, .int .u8 d3, .int .u8 d4, .int .u8 d5, .int .u8 d6, .int .i64 0, .int .i64 0, .int .i64 0, .int .i64 0, .int .i64 0], .agg (rowX 1)] w fun e w' => e = .returned (.int .i64 (headE 1 false false false false sz 0 0)) ∧ Below w.heap.size w w' := by
  have e : rowX 1 = #[.int .i64 32, .bool true, .bool false, .bool false, .bool true, .bool false, .bool true, .bool false, .bool false, .bool false, .bool false] := rfl
  rw [e]
  clear e
  by_cases hz : sz = -1
  · subst hz
    go_enter Try.func28, Try.ntmps28
    go_wp2_with fail
    all_goals (go_ret; refine ⟨?_, ((Below.refl _ _).alloc (Nat.le_refl _) _).alloc (by simp) _⟩)
    all_goals (refine congrArg (fun x => Ending.returned (Value.int .i64 x)) ?_; simp_all [headE, begunE, bitN] <;> omega)
  · have hz0 : 0 ≤ sz := by omega
    go_enter Try.func28, Try.ntmps28
    go_wp2_with fail
    all_goals (go_ret; refine ⟨?_, ((Below.refl _ _).alloc (Nat.le_refl _) _).alloc (by simp) _⟩)
    all_goals (refine congrArg (fun x => Ending.returned (Value.int .i64 x)) ?_; simp_all [headE, begunE, bitN] <;> omega)
theorem rhd_1t (ki ks n d0 d1 d2 d3 d4 d5 d6 : Int) (hki : 0 ≤ ki ∧ ki ≤ 65535) (hks : 0 ≤ ks ∧ ks ≤ 255) (hn : 1 ≤ n ∧ n ≤ 4) (w : World) : Calls Try.prog 28 #[.agg #[.int .i64 1, .int .i64 ki, .int .i64 ks, .bool false, .bool false, .bool true, .bool false, .int .i64 0, .int .i64 n, .int .u8 d0, .int .u8 d1, .int .u8 d2, .int .u8 d3, .int .u8 d4, .int .u8 d5, .int .u8 d6, .int .i64 0, .int .i64 0, .int .i64 0, .int .i64 0, .int .i64 0], .agg (rowX 1)] w fun e w' => e = .returned (.int .i64 (headE 1 false false true false 0 n 0)) ∧ Below w.heap.size w w' := by
  have e : rowX 1 = #[.int .i64 32, .bool true, .bool false, .bool false, .bool true, .bool false, .bool true, .bool false, .bool false, .bool false, .bool false] := rfl
  rw [e]
  clear e
  · skip
    go_enter Try.func28, Try.ntmps28
    go_wp2_with fail
    all_goals (go_ret; refine ⟨?_, ((Below.refl _ _).alloc (Nat.le_refl _) _).alloc (by simp) _⟩)
    all_goals (refine congrArg (fun x => Ending.returned (Value.int .i64 x)) ?_; simp_all [headE, begunE, bitN] <;> omega)
theorem rhd_2 (n d0 d1 d2 d3 d4 d5 d6 : Int) (tg la : Bool) (hn : 0 ≤ n ∧ n ≤ 7) (w : World) : Calls Try.prog 28 #[.agg #[.int .i64 2, .int .i64 0, .int .i64 0, .bool tg, .bool la, .bool false, .bool false, .int .i64 0, .int .i64 n, .int .u8 d0, .int .u8 d1, .int .u8 d2, .int .u8 d3, .int .u8 d4, .int .u8 d5, .int .u8 d6, .int .i64 0, .int .i64 0, .int .i64 0, .int .i64 0, .int .i64 0], .agg (rowX 2)] w fun e w' => e = .returned (.int .i64 (headE 2 tg la false false 0 n 0)) ∧ Below w.heap.size w w' := by
  have e : rowX 2 = #[.int .i64 0, .bool false, .bool true, .bool true, .bool false, .bool false, .bool false, .bool true, .bool false, .bool false, .bool false] := rfl
  rw [e]
  clear e
  · skip
    go_enter Try.func28, Try.ntmps28
    go_wp2_with fail
    all_goals (go_ret; refine ⟨?_, ((Below.refl _ _).alloc (Nat.le_refl _) _).alloc (by simp) _⟩)
    all_goals (refine congrArg (fun x => Ending.returned (Value.int .i64 x)) ?_; simp_all [headE, begunE, bitN] <;> omega)
theorem rhd_3 (ki ks d0 d1 d2 d3 d4 d5 d6 : Int) (hki : 0 ≤ ki ∧ ki ≤ 65535) (hks : 0 ≤ ks ∧ ks ≤ 255) (w : World) : Calls Try.prog 28 #[.agg #[.int .i64 3, .int .i64 ki, .int .i64 ks, .bool false, .bool false, .bool false, .bool false, .int .i64 0, .int .i64 0, .int .u8 d0, .int .u8 d1, .int .u8 d2, .int .u8 d3, .int .u8 d4, .int .u8 d5, .int .u8 d6, .int .i64 0, .int .i64 0, .int .i64 0, .int .i64 0, .int .i64 0], .agg (rowX 3)] w fun e w' => e = .returned (.int .i64 (headE 3 false false false false 0 0 0)) ∧ Below w.heap.size w w' := by
  have e : rowX 3 = #[.int .i64 64, .bool true, .bool false, .bool false, .bool false, .bool false, .bool false, .bool false, .bool false, .bool false, .bool false] := rfl
  rw [e]
  clear e
  · skip
    go_enter Try.func28, Try.ntmps28
    go_wp2_with fail
    all_goals (go_ret; refine ⟨?_, ((Below.refl _ _).alloc (Nat.le_refl _) _).alloc (by simp) _⟩)
    all_goals (refine congrArg (fun x => Ending.returned (Value.int .i64 x)) ?_; simp_all [headE, begunE, bitN] <;> omega)
theorem rhd_4 (d0 d1 d2 d3 d4 d5 d6 : Int) (tg : Bool)  (w : World) : Calls Try.prog 28 #[.agg #[.int .i64 4, .int .i64 0, .int .i64 0, .bool tg, .bool false, .bool false, .bool false, .int .i64 0, .int .i64 0, .int .u8 d0, .int .u8 d1, .int .u8 d2, .int .u8 d3, .int .u8 d4, .int .u8 d5, .int .u8 d6, .int .i64 0, .int .i64 0, .int .i64 0, .int .i64 0, .int .i64 0], .agg (rowX 4)] w fun e w' => e = .returned (.int .i64 (headE 4 tg false false false 0 0 0)) ∧ Below w.heap.size w w' := by
  have e : rowX 4 = #[.int .i64 96, .bool false, .bool true, .bool false, .bool false, .bool false, .bool false, .bool false, .bool false, .bool false, .bool false] := rfl
  rw [e]
  clear e
  · skip
    go_enter Try.func28, Try.ntmps28
    go_wp2_with fail
    all_goals (go_ret; refine ⟨?_, ((Below.refl _ _).alloc (Nat.le_refl _) _).alloc (by simp) _⟩)
    all_goals (refine congrArg (fun x => Ending.returned (Value.int .i64 x)) ?_; simp_all [headE, begunE, bitN] <;> omega)
theorem rhd_5 (ki ks sz d0 d1 d2 d3 d4 d5 d6 : Int) (su : Bool) (hki : 0 ≤ ki ∧ ki ≤ 65535) (hks : 0 ≤ ks ∧ ks ≤ 255) (hsz : -1 ≤ sz ∧ sz ≤ 4294967295) (w : World) : Calls Try.prog 28 #[.agg #[.int .i64 5, .int .i64 ki, .int .i64 ks, .bool false, .bool false, .bool false, .bool su, .int .i64 sz, .int .i64 0, .int .u8 d0, .int .u8 d1, .int .u8 d2, .int .u8 d3, .int .u8 d4, .int .u8 d5, .int .u8 d6, .int .i64 0, .int .i64 0, .int .i64 0, .int .i64 0, .int .i64 0], .agg (rowX 5)] w fun e w' => e = .returned (.int .i64 (headE 5 false false false su sz 0 0)) ∧ Below w.heap.size w w' := by
  have e : rowX 5 = #[.int .i64 192, .bool true, .bool false, .bool false, .bool false, .bool true, .bool true, .bool false, .bool false, .bool false, .bool false] := rfl
  rw [e]
  clear e
  by_cases hz : sz = -1
  · subst hz
    go_enter Try.func28, Try.ntmps28
    go_wp2_with fail
    all_goals (go_ret; refine ⟨?_, ((Below.refl _ _).alloc (Nat.le_refl _) _).alloc (by simp) _⟩)
    all_goals (refine congrArg (fun x => Ending.returned (Value.int .i64 x)) ?_; simp_all [headE, begunE, bitN] <;> omega)
  · have hz0 : 0 ≤ sz := by omega
    go_enter Try.func28, Try.ntmps28
    go_wp2_with fail
    all_goals (go_ret; refine ⟨?_, ((Below.refl _ _).alloc (Nat.le_refl _) _).alloc (by simp) _⟩)
    all_goals (refine congrArg (fun x => Ending.returned (Value.int .i64 x)) ?_; simp_all [headE, begunE, bitN] <;> omega)
theorem rhd_6 (ki ks bl d0 d1 d2 d3 d4 d5 d6 : Int) (su : Bool) (hki : 0 ≤ ki ∧ ki ≤ 65535) (hks : 0 ≤ ks ∧ ks ≤ 255) (hbl : 1 ≤ bl ∧ bl ≤ 127) (w : World) : Calls Try.prog 28 #[.agg #[.int .i64 6, .int .i64 ki, .int .i64 ks, .bool false, .bool false, .bool false, .bool su, .int .i64 0, .int .i64 0, .int .u8 d0, .int .u8 d1, .int .u8 d2, .int .u8 d3, .int .u8 d4, .int .u8 d5, .int .u8 d6, .int .i64 0, .int .i64 0, .int .i64 bl, .int .i64 0, .int .i64 0], .agg (rowX 6)] w fun e w' => e = .returned (.int .i64 (headE 6 false false false su 0 0 0)) ∧ Below w.heap.size w w' := by
  have e : rowX 6 = #[.int .i64 160, .bool true, .bool false, .bool false, .bool false, .bool true, .bool false, .bool false, .bool false, .bool true, .bool false] := rfl
  rw [e]
  clear e
  · skip
    go_enter Try.func28, Try.ntmps28
    go_wp2_with fail
    all_goals (go_ret; refine ⟨?_, ((Below.refl _ _).alloc (Nat.le_refl _) _).alloc (by simp) _⟩)
    all_goals (refine congrArg (fun x => Ending.returned (Value.int .i64 x)) ?_; simp_all [headE, begunE, bitN] <;> omega)
theorem rhd_7 (d0 d1 d2 d3 d4 d5 d6 : Int)  (w : World) : Calls Try.prog 28 #[.agg #[.int .i64 7, .int .i64 0, .int .i64 0, .bool false, .bool false, .bool false, .bool false, .int .i64 0, .int .i64 0, .int .u8 d0, .int .u8 d1, .int .u8 d2, .int .u8 d3, .int .u8 d4, .int .u8 d5, .int .u8 d6, .int .i64 0, .int .i64 0, .int .i64 0, .int .i64 0, .int .i64 0], .agg (rowX 7)] w fun e w' => e = .returned (.int .i64 (headE 7 false false false false 0 0 0)) ∧ Below w.heap.size w w' := by
  have e : rowX 7 = #[.int .i64 163, .bool false, .bool false, .bool false, .bool false, .bool false, .bool false, .bool false, .bool false, .bool false, .bool false] := rfl
  rw [e]
  clear e
  · skip
    go_enter Try.func28, Try.ntmps28
    go_wp2_with fail
    all_goals (go_ret; refine ⟨?_, ((Below.refl _ _).alloc (Nat.le_refl _) _).alloc (by simp) _⟩)
    all_goals (refine congrArg (fun x => Ending.returned (Value.int .i64 x)) ?_; simp_all [headE, begunE, bitN] <;> omega)
theorem rhd_8 (ki ks d0 d1 d2 d3 d4 d5 d6 : Int) (hki : 0 ≤ ki ∧ ki ≤ 65535) (hks : 0 ≤ ks ∧ ks ≤ 255) (w : World) : Calls Try.prog 28 #[.agg #[.int .i64 8, .int .i64 ki, .int .i64 ks, .bool false, .bool false, .bool false, .bool false, .int .i64 0, .int .i64 0, .int .u8 d0, .int .u8 d1, .int .u8 d2, .int .u8 d3, .int .u8 d4, .int .u8 d5, .int .u8 d6, .int .i64 0, .int .i64 0, .int .i64 0, .int .i64 0, .int .i64 0], .agg (rowX 8)] w fun e w' => e = .returned (.int .i64 (headE 8 false false false false 0 0 0)) ∧ Below w.heap.size w w' := by
  have e : rowX 8 = #[.int .i64 96, .bool true, .bool false, .bool false, .bool false, .bool false, .bool false, .bool false, .bool false, .bool false, .bool false] := rfl
  rw [e]
  clear e
  · skip
    go_enter Try.func28, Try.ntmps28
    go_wp2_with fail
    all_goals (go_ret; refine ⟨?_, ((Below.refl _ _).alloc (Nat.le_refl _) _).alloc (by simp) _⟩)
    all_goals (refine congrArg (fun x => Ending.returned (Value.int .i64 x)) ?_; simp_all [headE, begunE, bitN] <;> omega)
theorem rhd_9 (d0 d1 d2 d3 d4 d5 d6 : Int) (tg : Bool)  (w : World) : Calls Try.prog 28 #[.agg #[.int .i64 9, .int .i64 0, .int .i64 0, .bool tg, .bool false, .bool false, .bool false, .int .i64 0, .int .i64 0, .int .u8 d0, .int .u8 d1, .int .u8 d2, .int .u8 d3, .int .u8 d4, .int .u8 d5, .int .u8 d6, .int .i64 0, .int .i64 0, .int .i64 0, .int .i64 0, .int .i64 0], .agg (rowX 9)] w fun e w' => e = .returned (.int .i64 (headE 9 tg false false false 0 0 0)) ∧ Below w.heap.size w w' := by
  have e : rowX 9 = #[.int .i64 32, .bool false, .bool true, .bool false, .bool false, .bool false, .bool false, .bool false, .bool false, .bool false, .bool false] := rfl
  rw [e]
  clear e
  · skip
    go_enter Try.func28, Try.ntmps28
    go_wp2_with fail
    all_goals (go_ret; refine ⟨?_, ((Below.refl _ _).alloc (Nat.le_refl _) _).alloc (by simp) _⟩)
    all_goals (refine congrArg (fun x => Ending.returned (Value.int .i64 x)) ?_; simp_all [headE, begunE, bitN] <;> omega)
theorem rhd_10f (ki ks sz d0 d1 d2 d3 d4 d5 d6 : Int) (hki : 0 ≤ ki ∧ ki ≤ 65535) (hks : 0 ≤ ks ∧ ks ≤ 255) (hsz : -1 ≤ sz ∧ sz ≤ 4294967295) (w : World) : Calls Try.prog 28 #[.agg #[.int .i64 10, .int .i64 ki, .int .i64 ks, .bool false, .bool false, .bool false, .bool false, .int .i64 sz, .int .i64 0, .int .u8 d0, .int .u8 d1, .int .u8 d2, .int .u8 d3, .int .u8 d4, .int .u8 d5, .int .u8 d6, .int .i64 0, .int .i64 0, .int .i64 0, .int .i64 0, .int .i64 0], .agg (rowX 10)] w fun e w' => e = .returned (.int .i64 (headE 10 false false false false sz 0 0)) ∧ Below w.heap.size w w' := by
  have e : rowX 10 = #[.int .i64 64, .bool true, .bool false, .bool false, .bool true, .bool false, .bool true, .bool false, .bool false, .bool false, .bool false] := rfl
  rw [e]
  clear e
  by_cases hz : sz = -1
  · subst hz
    go_enter Try.func28, Try.ntmps28
    go_wp2_with fail
    all_goals (go_ret; refine ⟨?_, ((Below.refl _ _).alloc (Nat.le_refl _) _).alloc (by simp) _⟩)
    all_goals (refine congrArg (fun x => Ending.returned (Value.int .i64 x)) ?_; simp_all [headE, begunE, bitN] <;> omega)
  · have hz0 : 0 ≤ sz := by omega
    go_enter Try.func28, Try.ntmps28
    go_wp2_with fail
    all_goals (go_ret; refine ⟨?_, ((Below.refl _ _).alloc (Nat.le_refl _) _).alloc (by simp) _⟩)
    all_goals (refine congrArg (fun x => Ending.returned (Value.int .i64 x)) ?_; simp_all [headE, begunE, bitN] <;> omega)
theorem rhd_10t (ki ks n d0 d1 d2 d3 d4 d5 d6 : Int) (hki : 0 ≤ ki ∧ ki ≤ 65535) (hks : 0 ≤ ks ∧ ks ≤ 255) (hn : 1 ≤ n ∧ n ≤ 4) (w : World) : Calls Try.prog 28 #[.agg #[.int .i64 10, .int .i64 ki, .int .i64 ks, .bool false, .bool false, .bool true, .bool false, .int .i64 0, .int .i64 n, .int .u8 d0, .int .u8 d1, .int .u8 d2, .int .u8 d3, .int .u8 d4, .int .u8 d5, .int .u8 d6, .int .i64 0, .int .i64 0, .int .i64 0, .int .i64 0, .int .i64 0], .agg (rowX 10)] w fun e w' => e = .returned (.int .i64 (headE 10 false false true false 0 n 0)) ∧ Below w.heap.size w w' := by
  have e : rowX 10 = #[.int .i64 64, .bool true, .bool false, .bool false, .bool true, .bool false, .bool true, .bool false, .bool false, .bool false, .bool false] := rfl
  rw [e]
  clear e
  · skip
    go_enter Try.func28, Try.ntmps28
    go_wp2_with fail
    all_goals (go_ret; refine ⟨?_, ((Below.refl _ _).alloc (Nat.le_refl _) _).alloc (by simp) _⟩)
    all_goals (refine congrArg (fun x => Ending.returned (Value.int .i64 x)) ?_; simp_all [headE, begunE, bitN] <;> omega)
theorem rhd_11 (n d0 d1 d2 d3 d4 d5 d6 : Int) (tg la : Bool) (hn : 0 ≤ n ∧ n ≤ 7) (w : World) : Calls Try.prog 28 #[.agg #[.int .i64 11, .int .i64 0, .int .i64 0, .bool tg, .bool la, .bool false, .bool false, .int .i64 0, .int .i64 n, .int .u8 d0, .int .u8 d1, .int .u8 d2, .int .u8 d3, .int .u8 d4, .int .u8 d5, .int .u8 d6, .int .i64 0, .int .i64 0, .int .i64 0, .int .i64 0, .int .i64 0], .agg (rowX 11)] w fun e w' => e = .returned (.int .i64 (headE 11 tg la false false 0 n 0)) ∧ Below w.heap.size w w' := by
  have e : rowX 11 = #[.int .i64 0, .bool false, .bool true, .bool true, .bool false, .bool false, .bool false, .bool true, .bool false, .bool false, .bool false] := rfl
  rw [e]
  clear e
  · skip
    go_enter Try.func28, Try.ntmps28
    go_wp2_with fail
    all_goals (go_ret; refine ⟨?_, ((Below.refl _ _).alloc (Nat.le_refl _) _).alloc (by simp) _⟩)
    all_goals (refine congrArg (fun x => Ending.returned (Value.int .i64 x)) ?_; simp_all [headE, begunE, bitN] <;> omega)
theorem rhd_12 (ki ks bl d0 d1 d2 d3 d4 d5 d6 : Int) (su : Bool) (hki : 0 ≤ ki ∧ ki ≤ 65535) (hks : 0 ≤ ks ∧ ks ≤ 255) (hbl : 1 ≤ bl ∧ bl ≤ 127) (w : World) : Calls Try.prog 28 #[.agg #[.int .i64 12, .int .i64 ki, .int .i64 ks, .bool false, .bool false, .bool false, .bool su, .int .i64 0, .int .i64 0, .int .u8 d0, .int .u8 d1, .int .u8 d2, .int .u8 d3, .int .u8 d4, .int .u8 d5, .int .u8 d6, .int .i64 0, .int .i64 0, .int .i64 bl, .int .i64 0, .int .i64 0], .agg (rowX 12)] w fun e w' => e = .returned (.int .i64 (headE 12 false false false su 0 0 0)) ∧ Below w.heap.size w w' := by
  have e : rowX 12 = #[.int .i64 160, .bool true, .bool false, .bool false, .bool false, .bool true, .bool false, .bool false, .bool false, .bool true, .bool false] := rfl
  rw [e]
  clear e
  · skip
    go_enter Try.func28, Try.ntmps28
    go_wp2_with fail
    all_goals (go_ret; refine ⟨?_, ((Below.refl _ _).alloc (Nat.le_refl _) _).alloc (by simp) _⟩)
    all_goals (refine congrArg (fun x => Ending.returned (Value.int .i64 x)) ?_; simp_all [headE, begunE, bitN] <;> omega)
theorem rhd_13 (ki ks sz d0 d1 d2 d3 d4 d5 d6 : Int) (su : Bool) (hki : 0 ≤ ki ∧ ki ≤ 65535) (hks : 0 ≤ ks ∧ ks ≤ 255) (hsz : -1 ≤ sz ∧ sz ≤ 4294967295) (w : World) : Calls Try.prog 28 #[.agg #[.int .i64 13, .int .i64 ki, .int .i64 ks, .bool false, .bool false, .bool false, .bool su, .int .i64 sz, .int .i64 0, .int .u8 d0, .int .u8 d1, .int .u8 d2, .int .u8 d3, .int .u8 d4, .int .u8 d5, .int .u8 d6, .int .i64 0, .int .i64 0, .int .i64 0, .int .i64 0, .int .i64 0], .agg (rowX 13)] w fun e w' => e = .returned (.int .i64 (headE 13 false false false su sz 0 0)) ∧ Below w.heap.size w w' := by
  have e : rowX 13 = #[.int .i64 192, .bool true, .bool false, .bool false, .bool false, .bool true, .bool true, .bool false, .bool false, .bool false, .bool false] := rfl
  rw [e]
  clear e
  by_cases hz : sz = -1
  · subst hz
    go_enter Try.func28, Try.ntmps28
    go_wp2_with fail
    all_goals (go_ret; refine ⟨?_, ((Below.refl _ _).alloc (Nat.le_refl _) _).alloc (by simp) _⟩)
    all_goals (refine congrArg (fun x => Ending.returned (Value.int .i64 x)) ?_; simp_all [headE, begunE, bitN] <;> omega)
  · have hz0 : 0 ≤ sz := by omega
    go_enter Try.func28, Try.ntmps28
    go_wp2_with fail
    all_goals (go_ret; refine ⟨?_, ((Below.refl _ _).alloc (Nat.le_refl _) _).alloc (by simp) _⟩)
    all_goals (refine congrArg (fun x => Ending.returned (Value.int .i64 x)) ?_; simp_all [headE, begunE, bitN] <;> omega)
theorem rhd_14 (ki ks co d0 d1 d2 d3 d4 d5 d6 : Int) (hki : 0 ≤ ki ∧ ki ≤ 65535) (hks : 0 ≤ ks ∧ ks ≤ 255) (hco : 0 ≤ co ∧ co ≤ 4294967295) (w : World) : Calls Try.prog 28 #[.agg #[.int .i64 14, .int .i64 ki, .int .i64 ks, .bool false, .bool false, .bool false, .bool false, .int .i64 0, .int .i64 0, .int .u8 d0, .int .u8 d1, .int .u8 d2, .int .u8 d3, .int .u8 d4, .int .u8 d5, .int .u8 d6, .int .i64 co, .int .i64 0, .int .i64 0, .int .i64 0, .int .i64 0], .agg (rowX 14)] w fun e w' => e = .returned (.int .i64 (headE 14 false false false false 0 0 0)) ∧ Below w.heap.size w w' := by
  have e : rowX 14 = #[.int .i64 128, .bool true, .bool false, .bool false, .bool false, .bool false, .bool false, .bool false, .bool true, .bool false, .bool false] := rfl
  rw [e]
  clear e
  · skip
    go_enter Try.func28, Try.ntmps28
    go_wp2_with fail
    all_goals (go_ret; refine ⟨?_, ((Below.refl _ _).alloc (Nat.le_refl _) _).alloc (by simp) _⟩)
    all_goals (refine congrArg (fun x => Ending.returned (Value.int .i64 x)) ?_; simp_all [headE, begunE, bitN] <;> omega)
theorem rhd_15 (sq bl d0 d1 d2 d3 d4 d5 d6 : Int) (hsq : 0 ≤ sq ∧ sq ≤ 127) (hbl : 1 ≤ bl ∧ bl ≤ 127) (w : World) : Calls Try.prog 28 #[.agg #[.int .i64 15, .int .i64 0, .int .i64 0, .bool false, .bool false, .bool false, .bool false, .int .i64 0, .int .i64 0, .int .u8 d0, .int .u8 d1, .int .u8 d2, .int .u8 d3, .int .u8 d4, .int .u8 d5, .int .u8 d6, .int .i64 0, .int .i64 sq, .int .i64 bl, .int .i64 0, .int .i64 0], .agg (rowX 15)] w fun e w' => e = .returned (.int .i64 (headE 15 false false false false 0 0 0)) ∧ Below w.heap.size w w' := by
  have e : rowX 15 = #[.int .i64 162, .bool false, .bool false, .bool false, .bool false, .bool false, .bool false, .bool false, .bool false, .bool true, .bool false] := rfl
  rw [e]
  clear e
  · skip
    go_enter Try.func28, Try.ntmps28
    go_wp2_with fail
    all_goals (go_ret; refine ⟨?_, ((Below.refl _ _).alloc (Nat.le_refl _) _).alloc (by simp) _⟩)
    all_goals (refine congrArg (fun x => Ending.returned (Value.int .i64 x)) ?_; simp_all [headE, begunE, bitN] <;> omega)
theorem rhd_16 (sp cr d0 d1 d2 d3 d4 d5 d6 : Int) (hsp : 0 ≤ sp ∧ sp ≤ 7) (hcr : 0 ≤ cr ∧ cr ≤ 65535) (w : World) : Calls Try.prog 28 #[.agg #[.int .i64 16, .int .i64 0, .int .i64 0, .bool false, .bool false, .bool false, .bool false, .int .i64 0, .int .i64 0, .int .u8 d0, .int .u8 d1, .int .u8 d2, .int .u8 d3, .int .u8 d4, .int .u8 d5, .int .u8 d6, .int .i64 0, .int .i64 0, .int .i64 0, .int .i64 sp, .int .i64 cr], .agg (rowX 16)] w fun e w' => e = .returned (.int .i64 (headE 16 false false false false 0 0 sp)) ∧ Below w.heap.size w w' := by
  have e : rowX 16 = #[.int .i64 193, .bool false, .bool false, .bool false, .bool false, .bool false, .bool false, .bool false, .bool false, .bool false, .bool true] := rfl
  rw [e]
  clear e
  · skip
    go_enter Try.func28, Try.ntmps28
    go_wp2_with fail
    all_goals (go_ret; refine ⟨?_, ((Below.refl _ _).alloc (Nat.le_refl _) _).alloc (by simp) _⟩)
    all_goals (refine congrArg (fun x => Ending.returned (Value.int .i64 x)) ?_; simp_all [headE, begunE, bitN] <;> omega)
theorem rhd_17 (d0 d1 d2 d3 d4 d5 d6 : Int)  (w : World) : Calls Try.prog 28 #[.agg #[.int .i64 17, .int .i64 0, .int .i64 0, .bool false, .bool false, .bool false, .bool false, .int .i64 0, .int .i64 0, .int .u8 d0, .int .u8 d1, .int .u8 d2, .int .u8 d3, .int .u8 d4, .int .u8 d5, .int .u8 d6, .int .i64 0, .int .i64 0, .int .i64 0, .int .i64 0, .int .i64 0], .agg (rowX 17)] w fun e w' => e = .returned (.int .i64 (headE 17 false false false false 0 0 0)) ∧ Below w.heap.size w w' := by
  have e : rowX 17 = #[.int .i64 161, .bool false, .bool false, .bool false, .bool false, .bool false, .bool false, .bool false, .bool false, .bool false, .bool false] := rfl
  rw [e]
  clear e
  · skip
    go_enter Try.func28, Try.ntmps28
    go_wp2_with fail
    all_goals (go_ret; refine ⟨?_, ((Below.refl _ _).alloc (Nat.le_refl _) _).alloc (by simp) _⟩)
    all_goals (refine congrArg (fun x => Ending.returned (Value.int .i64 x)) ?_; simp_all [headE, begunE, bitN] <;> omega)
end Go.Proofs.Ytoamgdcjmkkmfaa
