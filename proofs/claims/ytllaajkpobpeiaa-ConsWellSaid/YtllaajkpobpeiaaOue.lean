/- cons: a pair of one byte heard; what must be whatever is asked. -/
import Derived.Test.YtllaajkpobpeiaaOud
namespace Go.Proofs.Ytllaajkpobpeiaa
open Go.RowKit
set_option linter.unusedSimpArgs false
set_option linter.unusedVariables false

theorem dOf_rng {l : List Int} (h : ∀ y ∈ l, 0 ≤ y ∧ y ≤ 255) : ∀ j, j < 8 → 0 ≤ dOf l j ∧ dOf l j ≤ 255 := fun j _ => by
  unfold dOf
  by_cases hj : j < l.length
  · have := h l[j] (List.getElem_mem hj)
    simp [List.getD, List.getElem?_eq_getElem hj]
    exact this
  · simp [List.getD, List.getElem?_eq_none (Nat.le_of_not_lt hj)]
section
variable {w : World} {t k ck gd : Nat} {v0 : List Int} {S F TT GG : Int}
theorem hear1_first (now b : Int) (h : TkW w t k ck gd 1 (tabC TT GG) none v0 S F) (hb : 0 ≤ b ∧ b ≤ 255) (hn : 0 ≤ now ∧ now ≤ 2147483647) (hS : 0 ≤ S ∨ S = -1) :
    Calls Try.prog 32 #[.pointer (some ⟨t, 0, none⟩), .int .i64 now, .agg (frA 257 false ((1 : Nat) : Int) (dOf [b]))] w fun e w' => e = .returned (.tuple #[.slice none 0 0, .int .i64 0]) ∧ TkW w' t k ck gd 1 (tabC TT GG) (some [b]) v0 S (hfF S F now) ∧ Oth3 t ck gd w w' := by
  have hc : chk 257 false ((1 : Nat) : Int) (dOf [b]) = 0 := chk_good (l := [b]) (by omega) (by omega) (by simp)
  have hd := dOf_rng (l := [b]) (by simpa using hb)
  refine hear_first now 257 1 (dOf [b]) h hc hn hS ?_
  intro y hy
  have := tell_plain 257 1 (dOf [b]) hy hc hd rfl
  have e1 : plE 1 none (bL 1 (dOf [b])) = 1 := by rfl
  have e2 : plP 1 none (bL 1 (dOf [b])) = some [b] := by unfold plP; rw [e1]; rfl
  rw [e1, e2] at this
  exact this
theorem hear1_good (now b : Int) (h : TkW w t k ck gd 1 (tabC TT GG) (some [b]) v0 S F) (hb : 0 ≤ b ∧ b ≤ 255) (hn : 0 ≤ now ∧ now ≤ 2147483647) (hS : 0 ≤ S ∨ S = -1) :
    Calls Try.prog 32 #[.pointer (some ⟨t, 0, none⟩), .int .i64 now, .agg (frA 258 false ((1 : Nat) : Int) (dOf (flipL [b])))] w fun e w' => ∃ A c, e = .returned (.tuple #[.slice A 1 c, .int .i64 0]) ∧ Byt w' w'.heap.size A 1 c [b] ∧ TkW w' t k ck gd 1 (tabC TT GG) none [b] (whS S now) (whF S F) ∧ Oth3 t ck gd w w' := by
  have hc : chk 258 false ((1 : Nat) : Int) (dOf (flipL [b])) = 0 := chk_good (l := flipL [b]) (by omega) (by omega) (by simp [flipL])
  have hd := dOf_rng (l := flipL [b]) (flipL_range (by simpa using hb))
  have e1 : tuE 1 (some [b]) (bL 1 (dOf (flipL [b]))) = 2 := by
    show (if ¬ [255 - b].length = 1 then (4 : Int) else if lkB [b] [255 - b] = true then 2 else 5) = 2
    rw [if_neg (by simp)]
    exact if_pos (show lkB [b] [255 - b] = true from decide_eq_true (show [255 - b] = flipL [b] from rfl))
  have e2 : tuV 1 (some [b]) (bL 1 (dOf (flipL [b]))) v0 = [b] := by unfold tuV; rw [if_pos e1]; rfl
  refine (hear_good (v2 := [b]) now 258 1 (dOf (flipL [b])) h hc hn hS ?_)
  intro y hy
  have := tell_turned 258 1 (dOf (flipL [b])) hy hc hd rfl (by show ¬ (257 : Int) = 258; decide)
  rw [e1, e2] at this
  exact this
end
set_option maxRecDepth 100000 in
set_option maxHeartbeats 8000000 in
theorem live30_any (w : World) : Calls Try.prog 38 #[] w fun e w' => e = .returned (.bool true) ∧ Below w.heap.size w w' := by
  have HTA := Lib.hid (fun w => tableC_any 10 2 w)
  have HTK := Lib.hid (tabC_takes (time := 10) (gap := 2) (by omega) (by omega))
  have HSZ : Hid ((szX (tabC 10 2)).toNat = 1) := Lib.hid (by rw [tabC_size]; rfl)
  have HIC : Hid ((Try.prog.info? 29).map (·.size) = some (chA (tabC 10 2)).size) := Lib.hid info_chan
  have H1X := Lib.hid (chA_one (tabC 10 2))
  have HE0 : Hid ((chA c0X).size = (chA (tabC 10 2)).size) := Lib.hid rfl
  have HF1 : Hid (∀ {y : World} {t k ck gd : Nat}, TkW y t k ck gd 1 (tabC 10 2) none [] 3 (-1) → Calls Try.prog 32 #[.pointer (some ⟨t, 0, none⟩), .int .i64 5, .agg #[.int .i64 257, .bool false, .int .i64 1, .int .u8 5, .int .u8 0, .int .u8 0, .int .u8 0, .int .u8 0, .int .u8 0, .int .u8 0, .int .u8 0]] y fun e w' => e = .returned (.tuple #[.slice none 0 0, .int .i64 0]) ∧ TkW w' t k ck gd 1 (tabC 10 2) (some [5]) [] 3 5 ∧ Oth3 t ck gd y w') := Lib.hid (fun h => hear1_first 5 5 h (by omega) (by omega) (by omega))
  have HF2 : Hid (∀ {y : World} {t k ck gd : Nat}, TkW y t k ck gd 1 (tabC 10 2) (some [5]) [] 3 5 → Calls Try.prog 32 #[.pointer (some ⟨t, 0, none⟩), .int .i64 6, .agg #[.int .i64 258, .bool false, .int .i64 1, .int .u8 250, .int .u8 0, .int .u8 0, .int .u8 0, .int .u8 0, .int .u8 0, .int .u8 0, .int .u8 0]] y fun e w' => ∃ A c, e = .returned (.tuple #[.slice A 1 c, .int .i64 0]) ∧ Byt w' w'.heap.size A 1 c [5] ∧ TkW w' t k ck gd 1 (tabC 10 2) none [5] 6 (-1) ∧ Oth3 t ck gd y w') := Lib.hid (fun h => hear1_good 6 5 h (by omega) (by omega) (by omega))
  have HSO := Lib.hid (show strOfNums [5] = ⟨#[5]⟩ from rfl)
  have HCB := Lib.hid (chB_iff.2 (rfl : chA (tabC 10 2) = chA (tabC 10 2)))
  have HR0 := Lib.hid (show rcE (tabC 10 2).time (tabC 10 2).gap 6 (-1) 16 = 0 from by decide)
  have HR4 := Lib.hid (show rcE (tabC 10 2).time (tabC 10 2).gap 6 (-1) 17 = 4 from by decide)
  obtain ⟨X, hX⟩ : ∃ X, tabC 10 2 = X := ⟨_, rfl⟩
  rw [hX] at HTA HTK HSZ HIC H1X HE0 HF1 HF2 HCB HR0 HR4
  clear hX
  go_enter Try.func38, Try.ntmps38
  go_upto_region 3 with (first
    | (go_at_call 28; refine (cnewT w).mono ?_; rintro e w1 ⟨t, ht, rfl, hr, b1⟩; have HT1 := Lib.hid hr; have HB1 := Lib.hid b1; have HTL := Lib.hid ht; clear ht hr b1)
    | (go_at_call 39; refine (HTA.out _).mono ?_; rintro e w2 ⟨rfl, b2⟩; have HT2 := Lib.hid (HT1.out.below b2); have HB2 := Lib.hid (kF b2 HB1.out); have HZ2 : Hid ((w2.alloc (.cells (chA c0X) 29)).heap[w2.heap.size]? = some (.cells (chA c0X) 29 (0, 0))) := Lib.hid (heap_alloc_new w2 _); clear b2)
    | (refine wpList_store_row rfl _ (.tmp 2) (.tmp 6) rfl w2.heap.size _ rfl rfl _ _ HZ2.out HIC.out HE0.out H1X.out ?_))
  have hba : Below w2.heap.size w2 ((w2.alloc (.cells (chA c0X) 29)).setRow w2.heap.size (chA X)) := below_setRow ((Below.refl _ _).alloc (Nat.le_refl _) _) (Nat.le_refl _) _
  have HT3 := Lib.hid (HT2.out.below hba)
  have HB3 := Lib.hid (kF hba HB2.out)
  have HC3 : Hid (ChAt ((w2.alloc (.cells (chA c0X) 29)).setRow w2.heap.size (chA X)) w2.heap.size X) := Lib.hid (setRow_heap _ _ _ _ _ (0, 0) HZ2.out)
  clear hba HZ2 HT2 HB2 HT1 HB1 HTA HE0 H1X
  change Code.wp _ _ _ _ ((w2.alloc (.cells (chA c0X) 29)).setRow w2.heap.size (chA X))
  generalize (w2.alloc (.cells (chA c0X) 29)).setRow w2.heap.size (chA X) = w3 at *
  generalize w2.heap.size = tb at *
  go_upto_region 4 with (first
    | (refine wpList_load_row rfl _ (.tmp 2) rfl tb rfl _ _ _ _ HC3.out Try.underlying29 rfl HIC.out ?_)
    | (go_at_call 30; refine (bg_new 3 X HT3.out HTK.out (by omega)).mono ?_; rintro e w4 ⟨k, ck, gd, hcg, rfl, hw4, o4⟩; rw [HSZ.out] at hw4; have HW4 := Lib.hid hw4; have HC4 := Lib.hid (show ChAt w4 tb X from (o4.oth _ (Array.getElem?_eq_some_iff.1 HC3.out).1 (ne_ty HC3.out HT3.out (by decide))).trans HC3.out); have HB4 := Lib.hid (HB3.out.trans (o4.from_ HTL.out)); have HCG := Lib.hid (show w.heap.size ≤ ck ∧ w.heap.size ≤ gd from ⟨Nat.le_trans HB3.out.size hcg.1, Nat.le_trans HB3.out.size hcg.2⟩); clear hcg hw4 o4))
  go_upto_region 5 with (go_at_call 32; refine (HF1.out HW4.out).mono ?_; rintro e w5 ⟨rfl, hw5, o5⟩; have HW5 := Lib.hid hw5; have HC5 := Lib.hid (HW4.out.chan o5 HC4.out); have HB5 := Lib.hid (HB4.out.trans (o5.bel _ HTL.out HCG.out.1 HCG.out.2 HB4.out.size)); clear hw5 o5)
  go_upto_region 6 with (go_at_call 32; refine (HF2.out HW5.out).mono ?_; rintro e w6 ⟨VA, vc, rfl, hy6, hw6, o6⟩; have HW6 := Lib.hid hw6; have HC6 := Lib.hid (HW5.out.chan o6 HC5.out); have HB6 := Lib.hid (HB5.out.trans (o6.bel _ HTL.out HCG.out.1 HCG.out.2 HB5.out.size)); have hst := run_str 43 5 Try.underlying43 Try.underlying5 hy6 9 Try.underlying9; rw [HSO.out] at hst; clear hw6 o6 hy6)
  go_wp2_with (first
    | (have _hh := HC6.out; refine wpList_load_row_want (by kernel_rfl) _ (.tmp 2) rfl tb rfl _ _ _ _ HC6.out Try.underlying29 rfl HIC.out ?_)
    | (go_at_call 30; (with_reducible refine (same_no 16 X HW6.out HCB.out HTK.out (by omega) HR0.out).mono ?_); rintro e w7 ⟨rfl, hw7, o7⟩; have HW7 := Lib.hid hw7; have HC7 := Lib.hid (show ChAt w7 tb X from (o7.oth _ (Array.getElem?_eq_some_iff.1 HC6.out).1 (ne_ty HC6.out HW6.out.tb (by decide))).trans HC6.out); have HB7 := Lib.hid (HB6.out.trans (o7.from_ HTL.out)); clear hw7 o7 HC6)
    | (have _hh := HC7.out; refine wpList_load_row_want (by kernel_rfl) _ (.tmp 2) rfl tb rfl _ _ _ _ HC7.out Try.underlying29 rfl HIC.out ?_)
    | (go_at_call 30; (with_reducible refine (same_yes 17 X HW7.out HCB.out HTK.out (by omega) HR4.out (by omega)).mono ?_); rintro e w8 ⟨rfl, hr8, o8⟩; have HR8 := Lib.hid hr8; have HB8 := Lib.hid (HB7.out.trans (o8.from_ HTL.out)); clear hr8 o8 HC7)
    | (go_at_call 37; (with_reducible refine (failed_rest HR8.out).mono ?_); rintro e w9 ⟨rfl, rfl⟩))
  go_ret
  exact ⟨rfl, HB8.out⟩
end Go.Proofs.Ytllaajkpobpeiaa
