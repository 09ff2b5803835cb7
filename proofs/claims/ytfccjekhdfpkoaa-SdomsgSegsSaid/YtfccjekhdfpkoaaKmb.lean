/- A number's bytes in a line: what the document's put answers. -/
import Derived.Test.YtfccjekhdfpkoaaKj
namespace Go.Proofs.Ytfccjekhdfpkoaa
open Go.RowKit
set_option linter.unusedSimpArgs false
set_option linter.unusedVariables false
set_option maxHeartbeats 4000000
/-- A line in which one byte is told. -/
def setL (L : List Int) (i : Nat) (x : Int) : List Int := (List.range 8).map fun j => if j = i then x else L.getD j 0
theorem ln_set (L : List Int) (i : Nat) (x : Int) (h : i < 8) : (lnA L).setIfInBounds i (.int .u8 x) = lnA (setL L i x) := by
  have : i = 0 ∨ i = 1 ∨ i = 2 ∨ i = 3 ∨ i = 4 ∨ i = 5 ∨ i = 6 ∨ i = 7 := by omega
  rcases this with rfl | rfl | rfl | rfl | rfl | rfl | rfl | rfl <;> rfl
theorem ln_at (L : List Int) (i : Nat) (h : i < 8) : (lnA L)[i]? = some (.int .u8 (L.getD i 0)) := by
  have : i = 0 ∨ i = 1 ∨ i = 2 ∨ i = 3 ∨ i = 4 ∨ i = 5 ∨ i = 6 ∨ i = 7 := by omega
  rcases this with rfl | rfl | rfl | rfl | rfl | rfl | rfl | rfl <;> rfl
theorem LnAt.one {w : World} {g : Nat} {L : List Int} (h : LnAt w g L) (i : Nat) (x : Int) (hi : i < 8) : LnAt (w.setCell ⟨g, i, none⟩ (.int .u8 x)) g (setL L i x) := by
  have := blk_set (k := i) (v := .int .u8 x) h
  rw [ln_set L i x hi] at this
  exact this
theorem LnAt.cell {w : World} {g : Nat} {L : List Int} (h : LnAt w g L) (i : Nat) (hi : i < 8) : w.cell? ⟨g, i, none⟩ = some (.int .u8 (L.getD i 0)) := by
  rw [cell_of_row _ _ _ _ _ _ h]; exact ln_at L i hi
theorem LnAt.frozen {w : World} {g : Nat} {L : List Int} (h : LnAt w g L) (i : Nat) : w.frozen? ⟨g, i, none⟩ = false := frozen_of_row _ _ _ _ _ h
/-- A line in which a number's bytes are told, the lowest first. -/
def putR : Nat → List Int → Nat → Int → List Int
  | 0, L, _, _ => L
  | q + 1, L, a, n => putR q (setL L a (n % 256)) (a + 1) (n / 256)
set_option maxRecDepth 100000 in
theorem rput17_any (w : World) (L : List Int) (a q : Nat) (n : Int) (h : a + q ≤ 8) (hn : 0 ≤ n ∧ n ≤ 4294967295) :
    Calls Try.prog 21 #[.agg (lnA L), .int .i64 a, .int .i64 q, .int .i64 n] w fun e w' => e = .returned (.agg (lnA (putR q L a n))) ∧ Below w.heap.size w w' := by
  have hl0 : LnAt ((w.alloc (.cells (lnA L) 30)).alloc (.cells #[.int .u8 0, .int .u8 0, .int .u8 0, .int .u8 0, .int .u8 0, .int .u8 0, .int .u8 0, .int .u8 0] 30)) w.heap.size L := LnAt.alloc (heap_alloc_new w _) _
  have hz0 : LnAt ((w.alloc (.cells (lnA L) 30)).alloc (.cells #[.int .u8 0, .int .u8 0, .int .u8 0, .int .u8 0, .int .u8 0, .int .u8 0, .int .u8 0, .int .u8 0] 30)) (w.heap.size + 1) [] := by have := ln_zero (w.alloc (.cells (lnA L) 30)); simpa using this
  have hb0 : Below w.heap.size w ((w.alloc (.cells (lnA L) 30)).alloc (.cells #[.int .u8 0, .int .u8 0, .int .u8 0, .int .u8 0, .int .u8 0, .int .u8 0, .int .u8 0, .int .u8 0] 30)) := ((Below.refl _ _).alloc (Nat.le_refl _) _).alloc (by simp) _
  have HL0 := Lib.hid hl0
  have HZ0 := Lib.hid hz0
  have HB0 := Lib.hid hb0
  clear hl0 hz0 hb0
  have HH := Lib.hid h
  have HN := Lib.hid hn
  have hq8 : q ≤ 8 := by omega
  have ha8 : a ≤ 8 := by omega
  clear h hn
  go_enter Try.func21, Try.ntmps21
  generalize hL : lnA L = LA at *
  go_wp2_with fail
  generalize (w.alloc (.cells LA 30)).alloc (.cells #[.int .u8 0, .int .u8 0, .int .u8 0, .int .u8 0, .int .u8 0, .int .u8 0, .int .u8 0, .int .u8 0] 30) = w0 at *
  clear hL
  go_loopw [3, 9] (fun t3 t9 wr => ∃ (p : Nat) (m : Int) (M : List Int), p ≤ q ∧ t3 = .int .i64 m ∧ t9 = .int .i64 p ∧ 0 ≤ m ∧ m ≤ 4294967295 ∧ Hid (putR q L a n = putR (q - p) M (a + p) m) ∧ Hid (LnAt wr w.heap.size M) ∧ Hid (LnAt wr (w.heap.size + 1) []) ∧ Hid (Below w.heap.size w wr)) (fun _ t _ => q - (intOf t).toNat)
  case atStart => exact ⟨0, n, L, by omega, rfl, rfl, HN.out.1, HN.out.2, Lib.hid rfl, HL0, HZ0, HB0⟩
  case round =>
    clear HL0 HZ0 HB0
    obtain ⟨p, m, M, hp, rfl, rfl, hm0, hm1, HR, HM, HZ, HB⟩ := hrel
    by_cases hlt : p < q
    · have hi8 : a + p < 8 := by have := HH.out; omega
      have c0 := HM.out.cell (a + p) hi8
      have f0 := HM.out.frozen (a + p)
      have e1 : Int.tmod m 256 = m % 256 := Int.tmod_eq_emod_of_nonneg hm0
      have e2 : Int.tdiv m 256 = m / 256 := Int.tdiv_eq_ediv_of_nonneg hm0
      have HS : Hid (putR q L a n = putR (q - (p + 1)) (setL M (a + p) (m % 256)) (a + (p + 1)) (m / 256)) := Lib.hid (by
        rw [HR.out, show q - p = (q - (p + 1)) + 1 by omega]; rfl)
      have HM2 := Lib.hid (HM.out.one (a + p) (m % 256) hi8)
      have HZ2 : Hid (LnAt (wr.setCell ⟨w.heap.size, a + p, none⟩ (.int .u8 (m % 256))) (w.heap.size + 1) []) := Lib.hid ((set_other _ (by omega)).trans HZ.out)
      have HB2 := Lib.hid (HB.out.setCell (p := ⟨w.heap.size, a + p, none⟩) (Nat.le_refl _) (.int .u8 (m % 256)))
      go_wp2_with fail
      exact ⟨⟨p + 1, m / 256, setL M (a + p) (m % 256), by omega, rfl, by go_num, by omega, by omega, HS, HM2, HZ2, HB2⟩, by simp [intOf]; omega⟩
    · have HQ : Hid (putR q L a n = M) := Lib.hid (by rw [HR.out, show q - p = 0 by omega]; rfl)
      go_wp2_with (first
        | (refine wpList_load_row rfl 30 (.tmp 4) rfl w.heap.size rfl _ _ _ _ HM.out Try.underlying30 rfl info_line ?_)
        | (refine wpList_store_row rfl _ (.tmp 8) (.tmp 24) rfl (w.heap.size + 1) (lnA M) rfl rfl _ _ HZ.out info_line rfl (ln_one _) ?_))
      rw [HQ.out]
      exact bodyPost_ret (results_cell_row rfl _ _ (w.heap.size + 1) _ _ _ _ rfl (setRow_heap _ _ _ (lnA M) _ _ HZ.out) Try.underlying30 rfl info_line) rfl ⟨rfl, below_setRow HB.out (show w.heap.size ≤ w.heap.size + 1 by omega) _⟩
end Go.Proofs.Ytfccjekhdfpkoaa
