/- What Parse answers of a text that asks. -/
import Derived.Test.YtabakfhknkhdkaaFrameP
namespace Go.Proofs.Ytabakfhknkhdkaa
open Go.RowKit

theorem ptail_ask (id n : Int) (s : ByteArray) (w : World) (hs : s.size ≤ 9223372036854775807) (hp : hasP s 82 = true) (hn : numO (sB (s.extract 1 s.size)) 1 = some n) (hc : chk id true n (fun _ => 0) = 0) :
    Calls Try.prog 30 #[.int .i64 id, .string s] w fun e w' => e = .returned (.tuple #[.agg #[.int .i64 id, .bool true, .int .i64 n, .int .u8 0, .int .u8 0, .int .u8 0, .int .u8 0, .int .u8 0, .int .u8 0, .int .u8 0, .int .u8 0], .int .i64 0]) ∧ Below w.heap.size w w' := by
  have hz : FrAt (w.alloc (.cells #[.int .i64 0, .bool false, .int .i64 0, .int .u8 0, .int .u8 0, .int .u8 0, .int .u8 0, .int .u8 0, .int .u8 0, .int .u8 0, .int .u8 0] 24)) w.heap.size 0 false 0 (fun _ => 0) := heap_alloc_new w _
  have hb : Below w.heap.size w (w.alloc (.cells #[.int .i64 0, .bool false, .int .i64 0, .int .u8 0, .int .u8 0, .int .u8 0, .int .u8 0, .int .u8 0, .int .u8 0, .int .u8 0, .int .u8 0] 24)) := (Below.refl _ _).alloc (Nat.le_refl _) _
  have hs1 : w.heap.size < (w.alloc (.cells #[.int .i64 0, .bool false, .int .i64 0, .int .u8 0, .int .u8 0, .int .u8 0, .int .u8 0, .int .u8 0, .int .u8 0, .int .u8 0, .int .u8 0] 24)).heap.size := by simp
  have hcp := fun w => cutp_any s 82 w hs
  simp only [hp, if_true] at hcp
  have hsz : (s.extract 1 s.size).size ≤ 9223372036854775807 := by simp; omega
  generalize s.extract 1 s.size = t at hcp hn hsz
  have hnu : ∀ w : World, Calls Try.prog 29 #[.string t, .int .i64 1] w fun e w' => e = .returned (.tuple #[.int .i64 n, .bool true]) ∧ w = w' := fun w => by
    have := number_any t 1 w (by omega) hsz
    rw [hn] at this
    exact this
  have hak := fun w => ask_ok id n w hc
  have HB := Lib.hid hb
  have HZ := Lib.hid hz
  have HS := Lib.hid hs1
  have HCP := Lib.hid hcp
  have HNU := Lib.hid hnu
  have HAK := Lib.hid hak
  clear hb hz hs1 hcp hnu hak hn hc hp
  go_enter Try.func30, Try.ntmps30
  go_wp2_with (first
    | (go_at_call 35; refine (HCP.out _).mono ?_; rintro e w1 ⟨rfl, rfl⟩)
    | (go_at_call 29; refine (HNU.out _).mono ?_; rintro e w2 ⟨rfl, rfl⟩)
    | (go_at_call 14; refine (HAK.out _).mono ?_; rintro e w3 ⟨rfl, hb3⟩; have hz3 := FrAt.below HZ.out hb3 HS.out; have hbw := HB.out.trans (hb3.mono HB.out.size); clear hb3)
    | (refine wpList_store_row rfl _ (.tmp 4) (.tmp 29) rfl w.heap.size _ rfl rfl _ _ hz3 info_frame rfl (one_frame id n true (fun _ => 0)) ?_; have hf4 := hz3.row id n true (fun _ => 0); have hbw4 := below_setRow hbw (Nat.le_refl w.heap.size) #[.int .i64 id, .bool true, .int .i64 n, .int .u8 0, .int .u8 0, .int .u8 0, .int .u8 0, .int .u8 0, .int .u8 0, .int .u8 0, .int .u8 0]))
  all_goals exact bodyPost_ret (results_cell_tmp_row rfl _ _ w.heap.size _ _ _ _ rfl hf4 Try.underlying24 rfl info_frame) rfl ⟨rfl, hbw4⟩

theorem parse_ask (id n : Int) (s : ByteArray) (o : Nat) (w : World) (hs : s.size ≤ 9223372036854775807) (ho : o < s.size) (hi : Lib.indexByte s.data.toList 35 = o) (hid : numO (sB (s.extract 0 o)) 3 = some id)
    (hp : hasP (s.extract (o + 1) s.size) 82 = true) (hn : numO (sB ((s.extract (o + 1) s.size).extract 1 (s.extract (o + 1) s.size).size)) 1 = some n) (hc : chk id true n (fun _ => 0) = 0) :
    Calls Try.prog 21 #[.string s] w fun e w' => e = .returned (.tuple #[.agg #[.int .i64 id, .bool true, .int .i64 n, .int .u8 0, .int .u8 0, .int .u8 0, .int .u8 0, .int .u8 0, .int .u8 0, .int .u8 0, .int .u8 0], .int .i64 0]) ∧ Below w.heap.size w w' := by
  have hz : FrAt (w.alloc (.cells #[.int .i64 0, .bool false, .int .i64 0, .int .u8 0, .int .u8 0, .int .u8 0, .int .u8 0, .int .u8 0, .int .u8 0, .int .u8 0, .int .u8 0] 24)) w.heap.size 0 false 0 (fun _ => 0) := heap_alloc_new w _
  have hb : Below w.heap.size w (w.alloc (.cells #[.int .i64 0, .bool false, .int .i64 0, .int .u8 0, .int .u8 0, .int .u8 0, .int .u8 0, .int .u8 0, .int .u8 0, .int .u8 0, .int .u8 0] 24)) := (Below.refl _ _).alloc (Nat.le_refl _) _
  have hs1 : w.heap.size < (w.alloc (.cells #[.int .i64 0, .bool false, .int .i64 0, .int .u8 0, .int .u8 0, .int .u8 0, .int .u8 0, .int .u8 0, .int .u8 0, .int .u8 0, .int .u8 0] 24)).heap.size := by simp
  have hcu := fun w => cut_yes s 35 o w hs ho hi
  have hsz1 : (s.extract 0 o).size ≤ 9223372036854775807 := by simp; omega
  have hsz2 : (s.extract (o + 1) s.size).size ≤ 9223372036854775807 := by simp; omega
  generalize s.extract 0 o = u at hcu hid hsz1
  generalize s.extract (o + 1) s.size = t at hcu hp hn hsz2
  have hnu : ∀ w : World, Calls Try.prog 29 #[.string u, .int .i64 3] w fun e w' => e = .returned (.tuple #[.int .i64 id, .bool true]) ∧ w = w' := fun w => by
    have := number_any u 3 w (by omega) hsz1
    rw [hid] at this
    exact this
  have hpt := fun w => ptail_ask id n t w hsz2 hp hn hc
  have HB := Lib.hid hb
  have HZ := Lib.hid hz
  have HS := Lib.hid hs1
  have HCU := Lib.hid hcu
  have HNU := Lib.hid hnu
  have HPT := Lib.hid hpt
  clear hb hz hs1 hcu hnu hpt hn hc hp hid hi
  go_enter Try.func21, Try.ntmps21
  go_wp2_with (first
    | (go_at_call 28; refine (HCU.out _).mono ?_; rintro e w1 ⟨rfl, hb1⟩; have hz1 := FrAt.below HZ.out hb1 HS.out; have hbw1 := HB.out.trans (hb1.mono HB.out.size); have hs1 := hz1.lt; have HZ1 := Lib.hid hz1; clear hb1 hz1)
    | (go_at_call 29; refine (HNU.out _).mono ?_; rintro e w2 ⟨rfl, rfl⟩)
    | (go_at_call 30; refine (HPT.out _).mono ?_; rintro e w3 ⟨rfl, hb3⟩; have hz3 := (FrAt.below HZ1.out hb3 hs1).below ((Below.refl w3.heap.size w3).alloc (Nat.le_refl _) (.cells #[.int .i64 0, .bool false, .int .i64 0, .int .u8 0, .int .u8 0, .int .u8 0, .int .u8 0, .int .u8 0, .int .u8 0, .int .u8 0, .int .u8 0] 24)) (Nat.lt_of_lt_of_le hs1 hb3.size); have hy3 : FrAt (w3.alloc (.cells #[.int .i64 0, .bool false, .int .i64 0, .int .u8 0, .int .u8 0, .int .u8 0, .int .u8 0, .int .u8 0, .int .u8 0, .int .u8 0, .int .u8 0] 24)) w3.heap.size 0 false 0 (fun _ => 0) := heap_alloc_new w3 _; have hbw3 := hbw1.trans (hb3.mono hbw1.size); have hne : w.heap.size ≠ w3.heap.size := (fun e => by have := Nat.lt_of_lt_of_le hs1 hb3.size; omega); have hbw3' := hbw3.alloc hbw3.size (.cells #[.int .i64 0, .bool false, .int .i64 0, .int .u8 0, .int .u8 0, .int .u8 0, .int .u8 0, .int .u8 0, .int .u8 0, .int .u8 0, .int .u8 0] 24); have hy4 := hy3.row id n true (fun _ => 0); have hz4 := hz3.row_other hne #[.int .i64 id, .bool true, .int .i64 n, .int .u8 0, .int .u8 0, .int .u8 0, .int .u8 0, .int .u8 0, .int .u8 0, .int .u8 0, .int .u8 0]; have hbw4 := below_setRow hbw3' hbw3.size #[.int .i64 id, .bool true, .int .i64 n, .int .u8 0, .int .u8 0, .int .u8 0, .int .u8 0, .int .u8 0, .int .u8 0, .int .u8 0, .int .u8 0]; have hf5 := hz4.row id n true (fun _ => 0); have hbw5 := below_setRow hbw4 (Nat.le_refl w.heap.size) #[.int .i64 id, .bool true, .int .i64 n, .int .u8 0, .int .u8 0, .int .u8 0, .int .u8 0, .int .u8 0, .int .u8 0, .int .u8 0, .int .u8 0]; have HY3 := Lib.hid hy3; have HY4 := Lib.hid hy4; have HZ4 := Lib.hid hz4; have HF5 := Lib.hid hf5; have HB5 := Lib.hid hbw5; clear hb3 hz3 hy3 hbw3' hy4 hz4 hbw4 hf5 hbw5)
    | (refine wpList_store_row rfl _ (.tmp 9) (.tmp 33) rfl w3.heap.size _ rfl rfl _ _ HY3.out info_frame rfl (one_frame id n true (fun _ => 0)) ?_)
    | (refine wpList_load_row rfl _ (.tmp 9) rfl w3.heap.size rfl _ _ _ _ HY4.out Try.underlying24 rfl info_frame ?_)
    | (refine wpList_store_row rfl _ (.tmp 2) (.tmp 38) rfl w.heap.size _ rfl rfl _ _ HZ4.out info_frame rfl (one_frame id n true (fun _ => 0)) ?_))
  all_goals exact bodyPost_ret (results_cell_tmp_row rfl _ _ w.heap.size _ _ _ _ rfl HF5.out Try.underlying24 rfl info_frame) rfl ⟨rfl, HB5.out⟩
end Go.Proofs.Ytabakfhknkhdkaa
