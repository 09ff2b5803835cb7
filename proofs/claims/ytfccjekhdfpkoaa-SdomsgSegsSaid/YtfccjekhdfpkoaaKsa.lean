/- Segments of blocks: the program's and the document's. -/
import Derived.Deep.CutBlock
import Derived.Test.YtfccjekhdfpkoaaKmb
import Derived.Test.YtfccjekhdfpkoaaKj
namespace Go.Proofs.Ytfccjekhdfpkoaa
open Go.RowKit
set_option linter.unusedSimpArgs false
set_option linter.unusedVariables false
set_option maxHeartbeats 4000000
theorem seg_copied {x : Int} {l : List Int} {cur' : Array Value} (hl : l.length ≤ 7) (h2 : cur'.size = 8) (h3 : ∀ i, cur'[i]? = if 1 ≤ i ∧ i < 1 + min l.length 7 then some (.int .u8 (l.getD (i - 1) 0)) else (lnA [x])[i]?) : cur' = lnA (x :: l) := by
  apply Array.ext_getElem?
  intro i
  rw [h3]
  by_cases hi : i < 8
  · by_cases h1 : 1 ≤ i ∧ i < 1 + min l.length 7
    · rw [if_pos h1]
      have : i = 1 ∨ i = 2 ∨ i = 3 ∨ i = 4 ∨ i = 5 ∨ i = 6 ∨ i = 7 := by omega
      rcases this with rfl | rfl | rfl | rfl | rfl | rfl | rfl <;> rfl
    · rw [if_neg h1]
      by_cases h0 : i = 0
      · subst h0; rfl
      · have e : l.getD (i - 1) 0 = 0 := by simp [List.getD, List.getElem?_eq_none (show l.length ≤ i - 1 by omega)]
        have : i = 1 ∨ i = 2 ∨ i = 3 ∨ i = 4 ∨ i = 5 ∨ i = 6 ∨ i = 7 := by omega
        rcases this with rfl | rfl | rfl | rfl | rfl | rfl | rfl <;> (show _ = some (Value.int .u8 (l.getD _ 0)); rw [show l.getD _ 0 = 0 from e]; rfl)
  · rw [if_neg (by omega), Array.getElem?_eq_none (by rw [ln_size]; omega), Array.getElem?_eq_none (by rw [ln_size]; omega)]
theorem bit_rng (b : Bool) : 0 ≤ bitN b 128 ∧ bitN b 128 ≤ 128 := by cases b <;> simp [bitN]
set_option maxRecDepth 8000 in
theorem mseg_yes (seq : Int) (last : Bool) (A : Option Addr) (n c : Nat) (l : List Int) (w : World) (hs : 1 ≤ seq ∧ seq ≤ 127) (hn : n ≤ 7) (hB : Byt w w.heap.size A n c l) :
    Calls Try.prog 11 #[.int .i64 seq, .bool last, .slice A n c] w fun e w' => e = .returned (.tuple #[.agg (lnA ((seq + bitN last 128) :: l)), .int .i64 0]) ∧ Below w.heap.size w w' := by
  have hz0 : LnAt (w.alloc (.cells #[.int .u8 0, .int .u8 0, .int .u8 0, .int .u8 0, .int .u8 0, .int .u8 0, .int .u8 0, .int .u8 0] 30)) w.heap.size [] := ln_zero w
  have hb0 : Below w.heap.size w (w.alloc (.cells #[.int .u8 0, .int .u8 0, .int .u8 0, .int .u8 0, .int .u8 0, .int .u8 0, .int .u8 0, .int .u8 0] 30)) := (Below.refl _ _).alloc (Nat.le_refl _) _
  have hs0 : (w.alloc (.cells #[.int .u8 0, .int .u8 0, .int .u8 0, .int .u8 0, .int .u8 0, .int .u8 0, .int .u8 0, .int .u8 0] 30)).heap.size = w.heap.size + 1 := by simp
  have hwi := fun w => within_any seq 1 127 w
  rw [show inB seq 1 127 = true by simp [inB]; omega] at hwi
  have hbi := fun w => bit_any last 128 w
  have hbr := bit_rng last
  have hln := hB.len
  have HLN := Lib.hid hln
  have hnI : (n : Int) ≤ 7 := by omega
  generalize bitN last 128 = bb at *
  have HZ0 := Lib.hid hz0
  have HB0 := Lib.hid hb0
  have HS0 := Lib.hid hs0
  have HWI := Lib.hid hwi
  have HBI := Lib.hid hbi
  have HBY := Lib.hid hB
  clear hz0 hb0 hs0 hwi hbi hB hln
  go_enter Try.func11, Try.ntmps11
  go_upto_region 3 with (go_at_call 27; refine (HWI.out _).mono ?_; rintro e w1 ⟨rfl, rfl⟩)
  generalize w.alloc (.cells #[.int .u8 0, .int .u8 0, .int .u8 0, .int .u8 0, .int .u8 0, .int .u8 0, .int .u8 0, .int .u8 0] 30) = w0 at *
  have HZ1 := Lib.hid (ln_zero w0)
  go_upto_region 4 with (first
    | (go_at_call 28; refine (HBI.out _).mono ?_; rintro e w1 ⟨rfl, rfl⟩)
    | (refine wpList_store_row rfl 30 (.tmp 8) (.tmp 23) rfl w0.heap.size (lnA [seq + bb]) rfl rfl _ _ HZ1.out info_line rfl (ln_one _) ?_))
  have HN1 : Hid (LnAt (_root_.Go.World.setRow (w0.alloc (.cells #[.int .u8 0, .int .u8 0, .int .u8 0, .int .u8 0, .int .u8 0, .int .u8 0, .int .u8 0, .int .u8 0] 30)) w0.heap.size (lnA [seq + bb])) w0.heap.size [seq + bb]) := Lib.hid (setRow_heap _ _ _ _ _ _ HZ1.out)
  have HZ2 : Hid (LnAt (_root_.Go.World.setRow (w0.alloc (.cells #[.int .u8 0, .int .u8 0, .int .u8 0, .int .u8 0, .int .u8 0, .int .u8 0, .int .u8 0, .int .u8 0] 30)) w0.heap.size (lnA [seq + bb])) w.heap.size []) := Lib.hid ((setRow_other _ _ _ _ (by have := HS0.out; omega)).trans (LnAt.alloc HZ0.out _))
  have HB2 : Hid (Below w.heap.size w (_root_.Go.World.setRow (w0.alloc (.cells #[.int .u8 0, .int .u8 0, .int .u8 0, .int .u8 0, .int .u8 0, .int .u8 0, .int .u8 0, .int .u8 0] 30)) w0.heap.size (lnA [seq + bb]))) := Lib.hid (below_setRow (HB0.out.alloc HB0.out.size _) HB0.out.size _)
  have HY2 : Hid (Byt (_root_.Go.World.setRow (w0.alloc (.cells #[.int .u8 0, .int .u8 0, .int .u8 0, .int .u8 0, .int .u8 0, .int .u8 0, .int .u8 0, .int .u8 0] 30)) w0.heap.size (lnA [seq + bb])) w.heap.size A n c l) := Lib.hid (HBY.out.below HB2.out)
  have HSZ : Hid (w0.heap.size < (_root_.Go.World.setRow (w0.alloc (.cells #[.int .u8 0, .int .u8 0, .int .u8 0, .int .u8 0, .int .u8 0, .int .u8 0, .int .u8 0, .int .u8 0] 30)) w0.heap.size (lnA [seq + bb])).heap.size) := Lib.hid (by rw [size_setRow]; simp)
  have HG : Hid (w0.heap.size = w.heap.size + 1) := HS0
  clear HZ0 HZ1 HB0 HS0 HBY
  generalize _root_.Go.World.setRow (w0.alloc (.cells #[.int .u8 0, .int .u8 0, .int .u8 0, .int .u8 0, .int .u8 0, .int .u8 0, .int .u8 0, .int .u8 0] 30)) w0.heap.size (lnA [seq + bb]) = w2 at *
  generalize w0.heap.size = g at *
  have h78 : (8 : Nat) - 1 = 7 := rfl
  go_upto_region 5 with (refine wpList_plain rfl (fun K hK => wp_copy_row (cur := lnA [seq + bb]) (T := 30) (.tmp 24) (.tmp 25) rfl rfl rfl HY2.out HN1.out (by rw [ln_size]; omega) (fun w7 cur7 h7 hsz7 hc7 hg7 => hK _ _ ?_)))
  have e7 := seg_copied (x := seq + bb) (l := l) (by rw [HLN.out]; exact hn) (hsz7.trans (ln_size _)) (fun i => by rw [HLN.out]; exact hc7 i)
  subst e7
  have HN7 : Hid (LnAt w7 g ((seq + bb) :: l)) := Lib.hid h7
  have HZ7 : Hid (LnAt w7 w.heap.size []) := Lib.hid ((hg7.block _ HZ2.out.lt (by have := HG.out; simp; omega)).trans HZ2.out)
  have HB7 : Hid (Below w.heap.size w w7) := Lib.hid (HB2.out.grown hg7 HB2.out.size (fun k e => by cases e; have := HG.out; omega))
  clear h7 hsz7 hc7 hg7 HN1 HZ2 HB2 HY2 HSZ
  go_wp2_with (first
    | (refine wpList_load_row rfl 30 (.tmp 8) rfl g rfl _ _ _ _ HN7.out Try.underlying30 rfl info_line ?_)
    | (refine wpList_store_row rfl 30 (.tmp 6) (.tmp 27) rfl w.heap.size (lnA ((seq + bb) :: l)) rfl rfl _ _ HZ7.out info_line rfl (ln_one _) ?_))
  exact bodyPost_ret ((results_cell_tmp_row rfl _ _ w.heap.size _ _ _ _ rfl (HZ7.out.set _) Try.underlying30 rfl info_line).trans (by rfl)) rfl ⟨rfl, below_setRow HB7.out (Nat.le_refl _) _⟩
set_option maxRecDepth 8000 in
theorem mseg_no (seq : Int) (last : Bool) (A : Option Addr) (n c : Nat) (w : World) (hs : inB seq 1 127 = false ∨ 7 < n) (hm : n ≤ maxLen) :
    Calls Try.prog 11 #[.int .i64 seq, .bool last, .slice A n c] w fun e w' => e = .returned (.tuple #[.agg (lnA []), .int .i64 3]) ∧ Below w.heap.size w w' := by
  have hz0 : LnAt (w.alloc (.cells #[.int .u8 0, .int .u8 0, .int .u8 0, .int .u8 0, .int .u8 0, .int .u8 0, .int .u8 0, .int .u8 0] 30)) w.heap.size [] := ln_zero w
  have hb0 : Below w.heap.size w (w.alloc (.cells #[.int .u8 0, .int .u8 0, .int .u8 0, .int .u8 0, .int .u8 0, .int .u8 0, .int .u8 0, .int .u8 0] 30)) := (Below.refl _ _).alloc (Nat.le_refl _) _
  have hwi := fun w => within_any seq 1 127 w
  have HZ0 := Lib.hid hz0
  have HB0 := Lib.hid hb0
  clear hz0 hb0
  cases hin : inB seq 1 127 with
  | false =>
    rw [hin] at hwi
    have HWI := Lib.hid hwi
    clear hwi hs hin
    go_enter Try.func11, Try.ntmps11
    go_wp2_with (first
      | (go_at_call 27; refine (HWI.out _).mono ?_; rintro e w1 ⟨rfl, rfl⟩)
      | (refine wpList_store_row rfl 30 (.tmp 6) (.tmp 17) rfl w.heap.size (lnA []) rfl rfl _ _ HZ0.out info_line rfl (ln_one _) ?_))
    exact bodyPost_ret ((results_cell_tmp_row rfl _ _ w.heap.size _ _ _ _ rfl (HZ0.out.set _) Try.underlying30 rfl info_line).trans (by rfl)) rfl ⟨rfl, below_setRow HB0.out (Nat.le_refl _) _⟩
  | true =>
    rw [hin] at hwi
    have h7 : 7 < n := hs.resolve_left (by rw [hin]; simp)
    have h7I : (7 : Int) < (n : Int) := by omega
    have HWI := Lib.hid hwi
    clear hwi hs hin
    go_enter Try.func11, Try.ntmps11
    go_wp2_with (first
      | (go_at_call 27; refine (HWI.out _).mono ?_; rintro e w1 ⟨rfl, rfl⟩)
      | (refine wpList_store_row rfl 30 (.tmp 6) (.tmp 17) rfl w.heap.size (lnA []) rfl rfl _ _ HZ0.out info_line rfl (ln_one _) ?_))
    exact bodyPost_ret ((results_cell_tmp_row rfl _ _ w.heap.size _ _ _ _ rfl (HZ0.out.set _) Try.underlying30 rfl info_line).trans (by rfl)) rfl ⟨rfl, below_setRow HB0.out (Nat.le_refl _) _⟩
/-- A line in which some bytes are told behind the first. -/
def putS : Nat → List Int → List Int → List Int
  | 0, _, L => L
  | p + 1, ds, L => setL (putS p ds L) (p + 1) (ds.getD p 0)
theorem puts_all (x : Int) : ∀ l : List Int, l.length ≤ 7 → lnA (putS l.length l [x]) = lnA (x :: l)
  | [], _ => rfl
  | [_], _ => rfl
  | [_, _], _ => rfl
  | [_, _, _], _ => rfl
  | [_, _, _, _], _ => rfl
  | [_, _, _, _, _], _ => rfl
  | [_, _, _, _, _, _], _ => rfl
  | [_, _, _, _, _, _, _], _ => rfl
  | _ :: _ :: _ :: _ :: _ :: _ :: _ :: _ :: _, h => by simp at h
theorem rseg_start {w x : World} (hx : (w.alloc (.cells #[.int .u8 0, .int .u8 0, .int .u8 0, .int .u8 0, .int .u8 0, .int .u8 0, .int .u8 0, .int .u8 0] 30)).alloc (.cells #[.int .u8 0, .int .u8 0, .int .u8 0, .int .u8 0, .int .u8 0, .int .u8 0, .int .u8 0, .int .u8 0] 30) = x) : LnAt x w.heap.size [] ∧ LnAt x (w.heap.size + 1) [] ∧ Below w.heap.size w x := by
  subst hx
  refine ⟨LnAt.alloc (ln_zero w) _, ?_, ((Below.refl _ _).alloc (Nat.le_refl _) _).alloc (by simp) _⟩
  have := ln_zero (w.alloc (.cells #[.int .u8 0, .int .u8 0, .int .u8 0, .int .u8 0, .int .u8 0, .int .u8 0, .int .u8 0, .int .u8 0] 30)); simpa using this
set_option maxRecDepth 8000 in
theorem rseg_no (seq : Int) (last : Bool) (A : Option Addr) (n c : Nat) (w : World) (hs : inB seq 1 127 = false ∨ 7 < n) (hm : n ≤ maxLen) :
    Calls Try.prog 12 #[.int .i64 seq, .bool last, .slice A n c] w fun e w' => e = .returned (.tuple #[.agg (lnA []), .int .i64 3]) ∧ Below w.heap.size w w' := by
  have h0 : seq < 1 ∨ 127 < seq ∨ 7 < (n : Int) := by
    rcases hs with h | h
    · simp [inB] at h; omega
    · omega
  clear hs
  go_enter Try.func12, Try.ntmps12
  go_upto_region 2 with fail
  generalize hx : (w.alloc (.cells #[.int .u8 0, .int .u8 0, .int .u8 0, .int .u8 0, .int .u8 0, .int .u8 0, .int .u8 0, .int .u8 0] 30)).alloc (.cells #[.int .u8 0, .int .u8 0, .int .u8 0, .int .u8 0, .int .u8 0, .int .u8 0, .int .u8 0, .int .u8 0] 30) = x at *
  obtain ⟨z1, z2, hb⟩ := rseg_start hx
  have HZ1 := Lib.hid z1
  have HZ2 := Lib.hid z2
  have HB := Lib.hid hb
  clear hx z1 z2 hb
  by_cases h1 : seq < 1
  · clear h0
    go_wp2_with (first
      | (refine wpList_load_row rfl 30 (.tmp 8) rfl (w.heap.size + 1) rfl _ _ _ _ HZ2.out Try.underlying30 rfl info_line ?_)
      | (refine wpList_store_row rfl 30 (.tmp 6) (.tmp 21) rfl w.heap.size (lnA []) rfl rfl _ _ HZ1.out info_line rfl (ln_one _) ?_))
    exact bodyPost_ret ((results_cell_tmp_row rfl _ _ w.heap.size _ _ _ _ rfl (HZ1.out.set _) Try.underlying30 rfl info_line).trans (by rfl)) rfl ⟨rfl, below_setRow HB.out (Nat.le_refl _) _⟩
  · by_cases h2 : 127 < seq
    · clear h0
      go_wp2_with (first
        | (refine wpList_load_row rfl 30 (.tmp 8) rfl (w.heap.size + 1) rfl _ _ _ _ HZ2.out Try.underlying30 rfl info_line ?_)
        | (refine wpList_store_row rfl 30 (.tmp 6) (.tmp 21) rfl w.heap.size (lnA []) rfl rfl _ _ HZ1.out info_line rfl (ln_one _) ?_))
      exact bodyPost_ret ((results_cell_tmp_row rfl _ _ w.heap.size _ _ _ _ rfl (HZ1.out.set _) Try.underlying30 rfl info_line).trans (by rfl)) rfl ⟨rfl, below_setRow HB.out (Nat.le_refl _) _⟩
    · have h3 : 7 < (n : Int) := by omega
      clear h0
      go_wp2_with (first
        | (refine wpList_load_row rfl 30 (.tmp 8) rfl (w.heap.size + 1) rfl _ _ _ _ HZ2.out Try.underlying30 rfl info_line ?_)
        | (refine wpList_store_row rfl 30 (.tmp 6) (.tmp 21) rfl w.heap.size (lnA []) rfl rfl _ _ HZ1.out info_line rfl (ln_one _) ?_))
      exact bodyPost_ret ((results_cell_tmp_row rfl _ _ w.heap.size _ _ _ _ rfl (HZ1.out.set _) Try.underlying30 rfl info_line).trans (by rfl)) rfl ⟨rfl, below_setRow HB.out (Nat.le_refl _) _⟩
set_option maxRecDepth 8000 in
theorem rseg_yes (seq : Int) (last : Bool) (A : Option Addr) (n c : Nat) (l : List Int) (w : World) (hs : 1 ≤ seq ∧ seq ≤ 127) (hn : n ≤ 7) (hB : Byt w w.heap.size A n c l) :
    Calls Try.prog 12 #[.int .i64 seq, .bool last, .slice A n c] w fun e w' => e = .returned (.tuple #[.agg (lnA ((seq + bitN last 128) :: l)), .int .i64 0]) ∧ Below w.heap.size w w' := by
  have hln := hB.len
  have HLN := Lib.hid hln
  have hnI : (n : Int) ≤ 7 := by omega
  have hs1 := hs.1
  have hs2 := hs.2
  have HBY0 := Lib.hid hB
  clear hB hln
  go_enter Try.func12, Try.ntmps12
  go_upto_region 2 with fail
  generalize hx : (w.alloc (.cells #[.int .u8 0, .int .u8 0, .int .u8 0, .int .u8 0, .int .u8 0, .int .u8 0, .int .u8 0, .int .u8 0] 30)).alloc (.cells #[.int .u8 0, .int .u8 0, .int .u8 0, .int .u8 0, .int .u8 0, .int .u8 0, .int .u8 0, .int .u8 0] 30) = x at *
  obtain ⟨z1, z2, hb⟩ := rseg_start hx
  have HY : Hid (Byt x w.heap.size A n c l) := Lib.hid (HBY0.out.below hb)
  have HZ1 := Lib.hid z1
  have HZ2 := Lib.hid z2
  have HB := Lib.hid hb
  clear hx z1 z2 hb HBY0
  have c0 := HZ2.out.cell 0 (by omega)
  have f0 := HZ2.out.frozen 0
  go_upto_region 5 with fail
  have HZ3 := Lib.hid (HZ2.out.one 0 seq (by omega))
  have HZ4 : Hid (LnAt (x.setCell ⟨w.heap.size + 1, 0, none⟩ (.int .u8 seq)) w.heap.size []) := Lib.hid ((set_other _ (by omega)).trans HZ1.out)
  have HB3 := Lib.hid (HB.out.setCell (p := ⟨w.heap.size + 1, 0, none⟩) (by show w.heap.size ≤ w.heap.size + 1; omega) (.int .u8 seq))
  have HY3 : Hid (Byt (x.setCell ⟨w.heap.size + 1, 0, none⟩ (.int .u8 seq)) w.heap.size A n c l) := Lib.hid (HY.out.below ((Below.refl _ _).setCell (p := ⟨w.heap.size + 1, 0, none⟩) (by show w.heap.size ≤ w.heap.size + 1; omega) _))
  clear HZ1 HZ2 HB HY c0 f0
  generalize x.setCell ⟨w.heap.size + 1, 0, none⟩ (.int .u8 seq) = x1 at *
  have HL : ∀ (y : Int) (x2 : World), y = seq + bitN last 128 → LnAt x2 (w.heap.size + 1) [y] → LnAt x2 w.heap.size [] → Below w.heap.size w x2 → Byt x2 w.heap.size A n c l → True := fun _ _ _ _ _ _ _ => trivial
  clear HL
  cases last
  · have HZ5 : Hid (LnAt x1 (w.heap.size + 1) (putS 0 l [seq])) := Lib.hid HZ3.out
    have HZ6 := HZ4
    have HB5 := HB3
    have HY5 := HY3
    clear HZ3 HZ4 HB3 HY3
    go_wp2_with fail
    go_loopw [9] (fun t wr => ∃ p : Nat, p ≤ n ∧ t = .int .i64 p ∧ Hid (LnAt wr (w.heap.size + 1) (putS p l [seq])) ∧ Hid (LnAt wr w.heap.size []) ∧ Hid (Below w.heap.size w wr) ∧ Hid (Byt wr w.heap.size A n c l)) (fun t _ => n - (intOf t).toNat)
    case atStart => exact ⟨0, by omega, rfl, HZ5, HZ6, HB5, HY5⟩
    case round =>
      clear HZ5 HZ6 HB5 HY5
      obtain ⟨p, hp, rfl, HZ5, HZ6, HB5, HY5⟩ := hrel
      by_cases hlt : p < n
      · have c1 := HZ5.out.cell (p + 1) (by omega)
        have f1 := HZ5.out.frozen (p + 1)
        obtain ⟨b, bo, rfl, hbb, hcell⟩ := HY5.out.cells (by omega)
        have cb := hcell p hlt
        have hcap := HY5.out.cap
        have hmax := HY5.out.max
        have HZ7 : Hid (LnAt (wr.setCell ⟨w.heap.size + 1, p + 1, none⟩ (.int .u8 (l.getD p 0))) (w.heap.size + 1) (putS (p + 1) l [seq])) := Lib.hid (HZ5.out.one (p + 1) _ (by omega))
        have HZ8 : Hid (LnAt (wr.setCell ⟨w.heap.size + 1, p + 1, none⟩ (.int .u8 (l.getD p 0))) w.heap.size []) := Lib.hid ((set_other _ (by omega)).trans HZ6.out)
        have HB7 := Lib.hid (HB5.out.setCell (p := ⟨w.heap.size + 1, p + 1, none⟩) (by show w.heap.size ≤ w.heap.size + 1; omega) (.int .u8 (l.getD p 0)))
        have HY7 : Hid (Byt (wr.setCell ⟨w.heap.size + 1, p + 1, none⟩ (.int .u8 (l.getD p 0))) w.heap.size (some ⟨b, bo, none⟩) n c l) := Lib.hid (HY5.out.below ((Below.refl _ _).setCell (p := ⟨w.heap.size + 1, p + 1, none⟩) (by show w.heap.size ≤ w.heap.size + 1; omega) _))
        clear hcell hbb
        generalize l.getD p 0 = v at *
        simp only [maxLen] at hmax
        go_wp2_with fail
        exact ⟨⟨p + 1, by omega, by go_num, HZ7, HZ8, HB7, HY7⟩, by simp [intOf]; omega⟩
      · have HQ : Hid (lnA (putS p l [seq]) = lnA ((seq + bitN false 128) :: l)) := Lib.hid (by
          have h1 : p = l.length := by rw [HLN.out]; omega
          rw [h1, puts_all _ l (by rw [HLN.out]; exact hn)]; simp [bitN])
        go_wp2_with (first
          | (refine wpList_load_row rfl 30 (.tmp 8) rfl (w.heap.size + 1) rfl _ _ _ _ HZ5.out Try.underlying30 rfl info_line ?_)
          | (refine wpList_store_row rfl 30 (.tmp 6) (.tmp 43) rfl w.heap.size (lnA (putS p l [seq])) rfl rfl _ _ HZ6.out info_line rfl (ln_one _) ?_))
        exact bodyPost_ret ((results_cell_tmp_row rfl _ _ w.heap.size _ _ _ _ rfl (HZ6.out.set _) Try.underlying30 rfl info_line).trans (by rfl)) rfl ⟨by rw [HQ.out]; rfl, below_setRow HB5.out (Nat.le_refl _) _⟩
  · have c0 := HZ3.out.cell 0 (by omega)
    have e0 : (setL [] 0 seq).getD 0 0 = seq := rfl
    rw [e0] at c0
    have f0 := HZ3.out.frozen 0
    have HZ5 : Hid (LnAt (x1.setCell ⟨w.heap.size + 1, 0, none⟩ (.int .u8 (seq + 128))) (w.heap.size + 1) (putS 0 l [seq + 128])) := Lib.hid (HZ3.out.one 0 (seq + 128) (by omega))
    have HZ6 : Hid (LnAt (x1.setCell ⟨w.heap.size + 1, 0, none⟩ (.int .u8 (seq + 128))) w.heap.size []) := Lib.hid ((set_other _ (by omega)).trans HZ4.out)
    have HB5 := Lib.hid (HB3.out.setCell (p := ⟨w.heap.size + 1, 0, none⟩) (by show w.heap.size ≤ w.heap.size + 1; omega) (.int .u8 (seq + 128)))
    have HY5 : Hid (Byt (x1.setCell ⟨w.heap.size + 1, 0, none⟩ (.int .u8 (seq + 128))) w.heap.size A n c l) := Lib.hid (HY3.out.below ((Below.refl _ _).setCell (p := ⟨w.heap.size + 1, 0, none⟩) (by show w.heap.size ≤ w.heap.size + 1; omega) _))
    clear HZ3 HZ4 HB3 HY3 e0
    go_upto_region 7 with fail
    clear c0 f0
    generalize x1.setCell ⟨w.heap.size + 1, 0, none⟩ (.int .u8 (seq + 128)) = x2 at *
    go_wp2_with fail
    go_loopw [9] (fun t wr => ∃ p : Nat, p ≤ n ∧ t = .int .i64 p ∧ Hid (LnAt wr (w.heap.size + 1) (putS p l [seq + 128])) ∧ Hid (LnAt wr w.heap.size []) ∧ Hid (Below w.heap.size w wr) ∧ Hid (Byt wr w.heap.size A n c l)) (fun t _ => n - (intOf t).toNat)
    case atStart => exact ⟨0, by omega, rfl, HZ5, HZ6, HB5, HY5⟩
    case round =>
      clear HZ5 HZ6 HB5 HY5
      obtain ⟨p, hp, rfl, HZ5, HZ6, HB5, HY5⟩ := hrel
      by_cases hlt : p < n
      · have c1 := HZ5.out.cell (p + 1) (by omega)
        have f1 := HZ5.out.frozen (p + 1)
        obtain ⟨b, bo, rfl, hbb, hcell⟩ := HY5.out.cells (by omega)
        have cb := hcell p hlt
        have hcap := HY5.out.cap
        have hmax := HY5.out.max
        have HZ7 : Hid (LnAt (wr.setCell ⟨w.heap.size + 1, p + 1, none⟩ (.int .u8 (l.getD p 0))) (w.heap.size + 1) (putS (p + 1) l [seq + 128])) := Lib.hid (HZ5.out.one (p + 1) _ (by omega))
        have HZ8 : Hid (LnAt (wr.setCell ⟨w.heap.size + 1, p + 1, none⟩ (.int .u8 (l.getD p 0))) w.heap.size []) := Lib.hid ((set_other _ (by omega)).trans HZ6.out)
        have HB7 := Lib.hid (HB5.out.setCell (p := ⟨w.heap.size + 1, p + 1, none⟩) (by show w.heap.size ≤ w.heap.size + 1; omega) (.int .u8 (l.getD p 0)))
        have HY7 : Hid (Byt (wr.setCell ⟨w.heap.size + 1, p + 1, none⟩ (.int .u8 (l.getD p 0))) w.heap.size (some ⟨b, bo, none⟩) n c l) := Lib.hid (HY5.out.below ((Below.refl _ _).setCell (p := ⟨w.heap.size + 1, p + 1, none⟩) (by show w.heap.size ≤ w.heap.size + 1; omega) _))
        clear hcell hbb
        generalize l.getD p 0 = v at *
        simp only [maxLen] at hmax
        go_wp2_with fail
        exact ⟨⟨p + 1, by omega, by go_num, HZ7, HZ8, HB7, HY7⟩, by simp [intOf]; omega⟩
      · have HQ : Hid (lnA (putS p l [seq + 128]) = lnA ((seq + bitN true 128) :: l)) := Lib.hid (by
          have h1 : p = l.length := by rw [HLN.out]; omega
          rw [h1, puts_all _ l (by rw [HLN.out]; exact hn)]; simp [bitN])
        go_wp2_with (first
          | (refine wpList_load_row rfl 30 (.tmp 8) rfl (w.heap.size + 1) rfl _ _ _ _ HZ5.out Try.underlying30 rfl info_line ?_)
          | (refine wpList_store_row rfl 30 (.tmp 6) (.tmp 43) rfl w.heap.size (lnA (putS p l [seq + 128])) rfl rfl _ _ HZ6.out info_line rfl (ln_one _) ?_))
        exact bodyPost_ret ((results_cell_tmp_row rfl _ _ w.heap.size _ _ _ _ rfl (HZ6.out.set _) Try.underlying30 rfl info_line).trans (by rfl)) rfl ⟨by rw [HQ.out]; rfl, below_setRow HB5.out (Nat.le_refl _) _⟩
end Go.Proofs.Ytfccjekhdfpkoaa
