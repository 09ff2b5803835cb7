/- pulse: pulses' frames, both sides. -/
import Derived.Test.YthofimkjemhnoaaPBFrameI
import Derived.IntWalk
import Derived.Deep.CutBlock
import Derived.BigQuiet
import Derived.Deep.QuietTactic
namespace Go.Proofs.Ythofimkjemhnoaa
open Go.RowKit
set_option linter.unusedSimpArgs false
set_option linter.unusedVariables false

def isOv (o : Int) : Bool := decide (o = 0 ∨ (2 ≤ o ∧ o ≤ 240))
def isCt (c o : Int) : Bool := if o = 0 then decide (c = 0) else decide (1 ≤ c ∧ c ≤ o)
theorem ov_cases (o : Int) : o = 0 ∨ (¬ o = 0 ∧ 2 ≤ o ∧ o ≤ 240) ∨ (¬ o = 0 ∧ ¬ 2 ≤ o) ∨ (¬ o = 0 ∧ 2 ≤ o ∧ ¬ o ≤ 240) := by omega
theorem ov_zero : isOv 0 = true := by decide
theorem ov_yes {o : Int} (h0 : 2 ≤ o) (h1 : o ≤ 240) : isOv o = true := by simp [isOv, h0, h1]
theorem ov_no {o : Int} (h : ¬ o = 0) (h1 : ¬ (2 ≤ o ∧ o ≤ 240)) : isOv o = false := by simp only [isOv, decide_eq_false_iff_not]; omega
theorem ov_in {o : Int} (h : isOv o = true) : o = 0 ∨ (2 ≤ o ∧ o ≤ 240) := by simpa [isOv] using h
theorem ct_zero {c : Int} : isCt c 0 = decide (c = 0) := rfl
theorem ct_some {c o : Int} (h : ¬ o = 0) : isCt c o = decide (1 ≤ c ∧ c ≤ o) := if_neg h
theorem ct_in {c o : Int} (h : isCt c o = true) : (o = 0 ∧ c = 0) ∨ (¬ o = 0 ∧ 1 ≤ c ∧ c ≤ o) := by
  by_cases h0 : o = 0
  · subst h0; rw [ct_zero] at h; exact .inl ⟨rfl, by simpa using h⟩
  · rw [ct_some h0] at h; exact .inr ⟨h0, by simpa using h⟩
theorem pov_any (o : Int) (w : World) : Calls Try.prog 24 #[.int .i64 o] w fun e w' => e = .returned (.bool (isOv o)) ∧ w = w' := by
  rcases ov_cases o with rfl | ⟨h, h1, h2⟩ | ⟨h, h1⟩ | ⟨h, h1, h2⟩
  · rw [ov_zero]; go_enter Try.func24, Try.ntmps24; go_wp2; go_ret; exact ⟨rfl, rfl⟩
  · rw [ov_yes h1 h2]; go_enter Try.func24, Try.ntmps24; go_wp2; go_ret; exact ⟨rfl, rfl⟩
  · have t0 : (o == 0) = false := by simpa using h
    rw [ov_no h (by omega)]; go_enter Try.func24, Try.ntmps24; go_wp2; go_ret; exact ⟨rfl, rfl⟩
  · have t0 : (o == 0) = false := by simpa using h
    rw [ov_no h (by omega)]; go_enter Try.func24, Try.ntmps24; go_wp2; go_ret; exact ⟨rfl, rfl⟩
theorem rov_any (o : Int) (w : World) : Calls Try.prog 12 #[.int .i64 o] w fun e w' => e = .returned (.bool (isOv o)) ∧ w = w' := by
  rcases ov_cases o with rfl | ⟨h, h1, h2⟩ | ⟨h, h1⟩ | ⟨h, h1, h2⟩
  · rw [ov_zero]; go_enter Try.func12, Try.ntmps12; go_wp2; go_ret; exact ⟨rfl, rfl⟩
  · rw [ov_yes h1 h2]
    have a1 : 1 < o := by omega
    have a2 : o < 241 := by omega
    have t0 : (o == 0) = false := by simpa using h
    clear h h1 h2
    go_enter Try.func12, Try.ntmps12; go_wp2; go_ret; exact ⟨rfl, rfl⟩
  · rw [ov_no h (by omega)]
    have a1 : ¬ 1 < o := by omega
    have t0 : (o == 0) = false := by simpa using h
    clear h h1
    go_enter Try.func12, Try.ntmps12; go_wp2; go_ret; exact ⟨rfl, rfl⟩
  · rw [ov_no h (by omega)]
    have a1 : 1 < o := by omega
    have a2 : ¬ o < 241 := by omega
    have t0 : (o == 0) = false := by simpa using h
    clear h h1 h2
    go_enter Try.func12, Try.ntmps12; go_wp2; go_ret; exact ⟨rfl, rfl⟩
theorem pct_any (c o : Int) (w : World) : Calls Try.prog 25 #[.int .i64 c, .int .i64 o] w fun e w' => e = .returned (.bool (isCt c o)) ∧ w = w' := by
  by_cases h : o = 0
  · subst h
    rw [ct_zero]
    by_cases hc : c = 0
    · subst hc; go_enter Try.func25, Try.ntmps25; go_wp2; go_ret; exact ⟨rfl, rfl⟩
    · rw [show decide (c = 0) = false from decide_eq_false hc]
      have t0 : (c == 0) = false := by simpa using hc
      clear hc
      go_enter Try.func25, Try.ntmps25; go_wp2; go_ret; exact ⟨rfl, rfl⟩
  · have t0 : (o == 0) = false := by simpa using h
    by_cases h1 : 1 ≤ c
    · by_cases h2 : c ≤ o
      · rw [ct_some h, show decide (1 ≤ c ∧ c ≤ o) = true from decide_eq_true ⟨h1, h2⟩]
        clear h
        go_enter Try.func25, Try.ntmps25; go_wp2; go_ret; exact ⟨rfl, rfl⟩
      · rw [ct_some h, show decide (1 ≤ c ∧ c ≤ o) = false from decide_eq_false (by omega)]
        clear h
        go_enter Try.func25, Try.ntmps25; go_wp2; go_ret; exact ⟨rfl, rfl⟩
    · rw [ct_some h, show decide (1 ≤ c ∧ c ≤ o) = false from decide_eq_false (by omega)]
      clear h
      go_enter Try.func25, Try.ntmps25; go_wp2; go_ret; exact ⟨rfl, rfl⟩
theorem chk_zero : chk 128 false 0 (dOf []) = 0 := by decide
theorem chk_cnt (c : Int) : chk 128 false 1 (dOf [c]) = 0 := by
  unfold chk
  rw [if_neg (by omega), if_neg (by omega)]
  simp [eqD, cut, kOf, dOf]
theorem new_zero (w : World) : Calls Try.prog 26 #[.int .i64 128, .slice none 0 0] w fun e w' => e = .returned (.tuple #[.agg #[.int .i64 128, .bool false, .int .i64 0, .int .u8 0, .int .u8 0, .int .u8 0, .int .u8 0, .int .u8 0, .int .u8 0, .int .u8 0, .int .u8 0], .int .i64 0]) ∧ Below w.heap.size w w' := new_ok 128 none 0 0 [] w (Byt.nil_ _ _) chk_zero
theorem new_cnt (c : Int) (w : World) (A : Option Addr) (k : Nat) (h : Byt w w.heap.size A 1 k [c]) : Calls Try.prog 26 #[.int .i64 128, .slice A 1 k] w fun e w' => e = .returned (.tuple #[.agg #[.int .i64 128, .bool false, .int .i64 1, .int .u8 c, .int .u8 0, .int .u8 0, .int .u8 0, .int .u8 0, .int .u8 0, .int .u8 0, .int .u8 0], .int .i64 0]) ∧ Below w.heap.size w w' := new_ok 128 A 1 k [c] w h (chk_cnt c)
/-- What a pulse's frame is, or why there is none. -/
def mayP (c o : Int) : Bool := isOv o && isCt c o
def pI (c o : Int) : Int := if mayP c o = true then 128 else 0
def pN (c o : Int) : Int := if mayP c o = true then (if o = 0 then 0 else 1) else 0
def pC (c o : Int) : Int := if mayP c o = true then c else 0
def pE (c o : Int) : Int := if mayP c o = true then 0 else if isOv o = true then 3 else 2
set_option maxRecDepth 100000 in
theorem penc_ov (c o : Int) (w : World) (ho : isOv o = false) :
    Calls Try.prog 7 #[.int .i64 c, .int .i64 o] w fun e w' => e = .returned (.tuple #[.agg #[.int .i64 0, .bool false, .int .i64 0, .int .u8 0, .int .u8 0, .int .u8 0, .int .u8 0, .int .u8 0, .int .u8 0, .int .u8 0, .int .u8 0], .int .i64 2]) ∧ Below w.heap.size w w' := by
  have hO := pov_any o
  rw [ho] at hO
  have HO := Lib.hid hO
  have HC := Lib.hid (fun w => pct_any c o w)
  clear hO ho
  have hf : FrAt (w.alloc (.cells #[.int .i64 0, .bool false, .int .i64 0, .int .u8 0, .int .u8 0, .int .u8 0, .int .u8 0, .int .u8 0, .int .u8 0, .int .u8 0, .int .u8 0] 24)) w.heap.size 0 false 0 (fun _ => 0) := frame_new w 0 0 false (fun _ => 0)
  have hb : Below w.heap.size w (w.alloc (.cells #[.int .i64 0, .bool false, .int .i64 0, .int .u8 0, .int .u8 0, .int .u8 0, .int .u8 0, .int .u8 0, .int .u8 0, .int .u8 0, .int .u8 0] 24)) := (Below.refl _ _).alloc (Nat.le_refl _) _
  have HF := Lib.hid hf
  have HB := Lib.hid hb
  clear hf hb
  go_enter Try.func7, Try.ntmps7
  go_wp2_with (first
    | (go_at_call 24; refine (HO.out _).mono ?_; rintro e w1 ⟨rfl, rfl⟩)
    | (go_at_call 25; refine (HC.out _).mono ?_; rintro e w1 ⟨rfl, rfl⟩)
    | (refine wpList_store_row rfl _ (.tmp 4) (.tmp 9) rfl w.heap.size _ rfl rfl _ _ HF.out info_frame rfl (one_frame 0 0 false (fun _ => 0)) ?_))
  all_goals exact bodyPost_ret (results_cell_tmp_row rfl _ _ w.heap.size _ _ _ _ rfl (HF.out.row 0 0 false (fun _ => 0)) Try.underlying24 rfl info_frame) rfl ⟨rfl, below_setRow HB.out (Nat.le_refl _) _⟩
set_option maxRecDepth 100000 in
theorem penc_ct (c o : Int) (w : World) (ho : isOv o = true) (hc : isCt c o = false) :
    Calls Try.prog 7 #[.int .i64 c, .int .i64 o] w fun e w' => e = .returned (.tuple #[.agg #[.int .i64 0, .bool false, .int .i64 0, .int .u8 0, .int .u8 0, .int .u8 0, .int .u8 0, .int .u8 0, .int .u8 0, .int .u8 0, .int .u8 0], .int .i64 3]) ∧ Below w.heap.size w w' := by
  have hO := pov_any o
  rw [ho] at hO
  have HO := Lib.hid hO
  have hC := pct_any c o
  rw [hc] at hC
  have HC := Lib.hid hC
  clear hO ho hC hc
  have hf : FrAt (w.alloc (.cells #[.int .i64 0, .bool false, .int .i64 0, .int .u8 0, .int .u8 0, .int .u8 0, .int .u8 0, .int .u8 0, .int .u8 0, .int .u8 0, .int .u8 0] 24)) w.heap.size 0 false 0 (fun _ => 0) := frame_new w 0 0 false (fun _ => 0)
  have hb : Below w.heap.size w (w.alloc (.cells #[.int .i64 0, .bool false, .int .i64 0, .int .u8 0, .int .u8 0, .int .u8 0, .int .u8 0, .int .u8 0, .int .u8 0, .int .u8 0, .int .u8 0] 24)) := (Below.refl _ _).alloc (Nat.le_refl _) _
  have HF := Lib.hid hf
  have HB := Lib.hid hb
  clear hf hb
  go_enter Try.func7, Try.ntmps7
  go_wp2_with (first
    | (go_at_call 24; refine (HO.out _).mono ?_; rintro e w1 ⟨rfl, rfl⟩)
    | (go_at_call 25; refine (HC.out _).mono ?_; rintro e w1 ⟨rfl, rfl⟩)
    | (refine wpList_store_row rfl _ (.tmp 4) (.tmp 14) rfl w.heap.size _ rfl rfl _ _ HF.out info_frame rfl (one_frame 0 0 false (fun _ => 0)) ?_))
  all_goals exact bodyPost_ret (results_cell_tmp_row rfl _ _ w.heap.size _ _ _ _ rfl (HF.out.row 0 0 false (fun _ => 0)) Try.underlying24 rfl info_frame) rfl ⟨rfl, below_setRow HB.out (Nat.le_refl _) _⟩
set_option maxRecDepth 100000 in
theorem penc_zero (w : World) : Calls Try.prog 7 #[.int .i64 0, .int .i64 0] w fun e w' => e = .returned (.tuple #[.agg #[.int .i64 128, .bool false, .int .i64 0, .int .u8 0, .int .u8 0, .int .u8 0, .int .u8 0, .int .u8 0, .int .u8 0, .int .u8 0, .int .u8 0], .int .i64 0]) ∧ Below w.heap.size w w' := by
  have HO := Lib.hid (fun w => pov_any 0 w)
  have HC := Lib.hid (fun w => pct_any 0 0 w)
  have hf : FrAt (w.alloc (.cells #[.int .i64 0, .bool false, .int .i64 0, .int .u8 0, .int .u8 0, .int .u8 0, .int .u8 0, .int .u8 0, .int .u8 0, .int .u8 0, .int .u8 0] 24)) w.heap.size 0 false 0 (fun _ => 0) := frame_new w 0 0 false (fun _ => 0)
  have hb : Below w.heap.size w (w.alloc (.cells #[.int .i64 0, .bool false, .int .i64 0, .int .u8 0, .int .u8 0, .int .u8 0, .int .u8 0, .int .u8 0, .int .u8 0, .int .u8 0, .int .u8 0] 24)) := (Below.refl _ _).alloc (Nat.le_refl _) _
  have HF := Lib.hid hf
  have HB := Lib.hid hb
  clear hf hb
  go_enter Try.func7, Try.ntmps7
  go_wp2_with (first
    | (go_at_call 24; refine (HO.out _).mono ?_; rintro e w1 ⟨rfl, rfl⟩)
    | (go_at_call 25; refine (HC.out _).mono ?_; rintro e w1 ⟨rfl, rfl⟩)
    | (go_at_call 26; refine (new_zero _).mono ?_; rintro e w2 ⟨rfl, hb2⟩; have hf2 := FrAt.below HF.out hb2 HF.out.lt; have hbw2 := HB.out.trans (hb2.mono HB.out.size); have HF2 := Lib.hid hf2; have HF3 := Lib.hid (hf2.row 128 0 false (fun _ => 0)); have HB3 := Lib.hid (below_setRow hbw2 (Nat.le_refl w.heap.size) #[.int .i64 128, .bool false, .int .i64 0, .int .u8 0, .int .u8 0, .int .u8 0, .int .u8 0, .int .u8 0, .int .u8 0, .int .u8 0, .int .u8 0]); clear hb2 hf2 hbw2)
    | (refine wpList_store_row rfl _ (.tmp 4) (.tmp 18) rfl w.heap.size _ rfl rfl _ _ HF2.out info_frame rfl (one_frame 128 0 false (fun _ => 0)) ?_))
  all_goals first | (exfalso; simp at *; done) | exact bodyPost_ret (results_cell_tmp_row rfl _ _ w.heap.size _ _ _ _ rfl HF3.out Try.underlying24 rfl info_frame) rfl ⟨rfl, HB3.out⟩
set_option maxRecDepth 100000 in
theorem penc_cnt (c o : Int) (w : World) (h0 : 2 ≤ o) (h1 : o ≤ 240) (h2 : 1 ≤ c) (h3 : c ≤ o) : Calls Try.prog 7 #[.int .i64 c, .int .i64 o] w fun e w' => e = .returned (.tuple #[.agg #[.int .i64 128, .bool false, .int .i64 1, .int .u8 c, .int .u8 0, .int .u8 0, .int .u8 0, .int .u8 0, .int .u8 0, .int .u8 0, .int .u8 0], .int .i64 0]) ∧ Below w.heap.size w w' := by
  have hO := pov_any o
  rw [ov_yes h0 h1] at hO
  have HO := Lib.hid hO
  have hC := pct_any c o
  rw [ct_some (by omega), show decide (1 ≤ c ∧ c ≤ o) = true from decide_eq_true ⟨h2, h3⟩] at hC
  have HC := Lib.hid hC
  have t0 : (o == 0) = false := by simp; omega
  have wv : IntKind.u8.wrap c = c := IntWalk.u8_in c ⟨by omega, by omega⟩
  have hf : FrAt (w.alloc (.cells #[.int .i64 0, .bool false, .int .i64 0, .int .u8 0, .int .u8 0, .int .u8 0, .int .u8 0, .int .u8 0, .int .u8 0, .int .u8 0, .int .u8 0] 24)) w.heap.size 0 false 0 (fun _ => 0) := frame_new w 0 0 false (fun _ => 0)
  have hb : Below w.heap.size w (w.alloc (.cells #[.int .i64 0, .bool false, .int .i64 0, .int .u8 0, .int .u8 0, .int .u8 0, .int .u8 0, .int .u8 0, .int .u8 0, .int .u8 0, .int .u8 0] 24)) := (Below.refl _ _).alloc (Nat.le_refl _) _
  have HF := Lib.hid hf
  have HB := Lib.hid hb
  have hz : (w.alloc (.cells #[.int .i64 0, .bool false, .int .i64 0, .int .u8 0, .int .u8 0, .int .u8 0, .int .u8 0, .int .u8 0, .int .u8 0, .int .u8 0, .int .u8 0] 24)).heap.size = w.heap.size + 1 := by simp
  have hby := (Byt.new (w.alloc (.cells #[.int .i64 0, .bool false, .int .i64 0, .int .u8 0, .int .u8 0, .int .u8 0, .int .u8 0, .int .u8 0, .int .u8 0, .int .u8 0, .int .u8 0] 24)) 5 [c] (by intro y hy; simp at hy; omega) (by simp [maxLen])).more (B' := ((w.alloc (.cells #[.int .i64 0, .bool false, .int .i64 0, .int .u8 0, .int .u8 0, .int .u8 0, .int .u8 0, .int .u8 0, .int .u8 0, .int .u8 0, .int .u8 0] 24)).alloc (.cells #[.int .u8 c] 5)).heap.size) (by simp)
  rw [hz] at hby
  have HBY := Lib.hid hby
  clear hby hz hf hb hO hC h0 h1 h2 h3
  go_enter Try.func7, Try.ntmps7
  go_wp2_with (first
    | (go_at_call 24; refine (HO.out _).mono ?_; rintro e w1 ⟨rfl, rfl⟩)
    | (go_at_call 25; refine (HC.out _).mono ?_; rintro e w1 ⟨rfl, rfl⟩)
    | (go_at_call 26; refine (new_cnt c _ _ _ HBY.out).mono ?_; rintro e w2 ⟨rfl, hb2⟩; have hba : Below (w.alloc (.cells #[.int .i64 0, .bool false, .int .i64 0, .int .u8 0, .int .u8 0, .int .u8 0, .int .u8 0, .int .u8 0, .int .u8 0, .int .u8 0, .int .u8 0] 24)).heap.size (w.alloc (.cells #[.int .i64 0, .bool false, .int .i64 0, .int .u8 0, .int .u8 0, .int .u8 0, .int .u8 0, .int .u8 0, .int .u8 0, .int .u8 0, .int .u8 0] 24)) ((w.alloc (.cells #[.int .i64 0, .bool false, .int .i64 0, .int .u8 0, .int .u8 0, .int .u8 0, .int .u8 0, .int .u8 0, .int .u8 0, .int .u8 0, .int .u8 0] 24)).alloc (.cells #[.int .u8 c] 5)) := (Below.refl _ _).alloc (Nat.le_refl _) _; have hb3 := hba.trans (hb2.mono hba.size); have hf2 := FrAt.below HF.out hb3 HF.out.lt; have hbw2 := HB.out.trans (hb3.mono HB.out.size); have HF2 := Lib.hid hf2; have HF3 := Lib.hid (hf2.row 128 1 false (dOf [c])); have HB3 := Lib.hid (below_setRow hbw2 (Nat.le_refl w.heap.size) #[.int .i64 128, .bool false, .int .i64 1, .int .u8 c, .int .u8 0, .int .u8 0, .int .u8 0, .int .u8 0, .int .u8 0, .int .u8 0, .int .u8 0]); clear hb2 hba hb3 hf2 hbw2)
    | (refine wpList_store_row rfl _ (.tmp 4) (.tmp 24) rfl w.heap.size _ rfl rfl _ _ HF2.out info_frame rfl (one_frame 128 1 false (dOf [c])) ?_))
  all_goals exact bodyPost_ret (results_cell_tmp_row rfl _ _ w.heap.size _ _ _ _ rfl HF3.out Try.underlying24 rfl info_frame) rfl ⟨rfl, HB3.out⟩
theorem penc_any (c o : Int) (w : World) : Calls Try.prog 7 #[.int .i64 c, .int .i64 o] w fun e w' => e = .returned (.tuple #[.agg #[.int .i64 (pI c o), .bool false, .int .i64 (pN c o), .int .u8 (pC c o), .int .u8 0, .int .u8 0, .int .u8 0, .int .u8 0, .int .u8 0, .int .u8 0, .int .u8 0], .int .i64 (pE c o)]) ∧ Below w.heap.size w w' := by
  unfold pI pN pC pE mayP
  cases ho : isOv o with
  | false => simpa using penc_ov c o w ho
  | true =>
    cases hc : isCt c o with
    | false => simpa using penc_ct c o w ho hc
    | true =>
      rcases ct_in hc with ⟨rfl, rfl⟩ | ⟨h, h1, h2⟩
      · simpa using penc_zero w
      · rcases ov_in ho with h3 | ⟨h3, h4⟩
        · exact absurd h3 h
        · simpa [h] using penc_cnt c o w h3 h4 h1 h2
set_option maxRecDepth 100000 in
theorem renc_ov (c o : Int) (w : World) (ho : isOv o = false) :
    Calls Try.prog 8 #[.int .i64 c, .int .i64 o] w fun e w' => e = .returned (.tuple #[.agg #[.int .i64 0, .bool false, .int .i64 0, .int .u8 0, .int .u8 0, .int .u8 0, .int .u8 0, .int .u8 0, .int .u8 0, .int .u8 0, .int .u8 0], .int .i64 2]) ∧ Below w.heap.size w w' := by
  have hO := rov_any o
  rw [ho] at hO
  have HO := Lib.hid hO
  clear hO ho
  go_enter Try.func8, Try.ntmps8
  go_wp2_with (go_at_call 12; refine (HO.out _).mono ?_; rintro e w1 ⟨rfl, rfl⟩)
  exact bodyPost_ret (results_cell_tmp_row rfl _ _ w.heap.size _ _ _ _ rfl (heap_alloc2_old w _ _) Try.underlying24 rfl info_frame) rfl ⟨rfl, by go_grown⟩
set_option maxRecDepth 100000 in
theorem renc_ct (c o : Int) (w : World) (ho : isOv o = true) (hc : isCt c o = false) :
    Calls Try.prog 8 #[.int .i64 c, .int .i64 o] w fun e w' => e = .returned (.tuple #[.agg #[.int .i64 0, .bool false, .int .i64 0, .int .u8 0, .int .u8 0, .int .u8 0, .int .u8 0, .int .u8 0, .int .u8 0, .int .u8 0, .int .u8 0], .int .i64 3]) ∧ Below w.heap.size w w' := by
  have hO := rov_any o
  rw [ho] at hO
  have HO := Lib.hid hO
  by_cases h : o = 0
  · subst h
    have t3 : ¬ c = 0 := by simpa [ct_zero] using hc
    clear hO ho hc
    go_enter Try.func8, Try.ntmps8
    go_wp2_with (go_at_call 12; refine (HO.out _).mono ?_; rintro e w1 ⟨rfl, rfl⟩)
    exact bodyPost_ret (results_cell_tmp_row rfl _ _ w.heap.size _ _ _ _ rfl (heap_alloc2_old w _ _) Try.underlying24 rfl info_frame) rfl ⟨rfl, by go_grown⟩
  · have t1 : (o == 0) = false := by simpa using h
    have h3 := ov_in ho
    have h4 : ¬ (1 ≤ c ∧ c ≤ o) := by simpa [ct_some h] using hc
    have t2 : 0 < o := by omega
    by_cases h5 : c < 1
    · clear hO ho hc h h3 h4
      go_enter Try.func8, Try.ntmps8
      go_wp2_with (go_at_call 12; refine (HO.out _).mono ?_; rintro e w1 ⟨rfl, rfl⟩)
      exact bodyPost_ret (results_cell_tmp_row rfl _ _ w.heap.size _ _ _ _ rfl (heap_alloc2_old w _ _) Try.underlying24 rfl info_frame) rfl ⟨rfl, by go_grown⟩
    · have h6 : o < c := by omega
      clear hO ho hc h h3 h4
      go_enter Try.func8, Try.ntmps8
      go_wp2_with (go_at_call 12; refine (HO.out _).mono ?_; rintro e w1 ⟨rfl, rfl⟩)
      exact bodyPost_ret (results_cell_tmp_row rfl _ _ w.heap.size _ _ _ _ rfl (heap_alloc2_old w _ _) Try.underlying24 rfl info_frame) rfl ⟨rfl, by go_grown⟩
set_option maxRecDepth 100000 in
theorem renc_zero (w : World) : Calls Try.prog 8 #[.int .i64 0, .int .i64 0] w fun e w' => e = .returned (.tuple #[.agg #[.int .i64 128, .bool false, .int .i64 0, .int .u8 0, .int .u8 0, .int .u8 0, .int .u8 0, .int .u8 0, .int .u8 0, .int .u8 0, .int .u8 0], .int .i64 0]) ∧ Below w.heap.size w w' := by
  have HO := Lib.hid (fun w => rov_any 0 w)
  go_enter Try.func8, Try.ntmps8
  go_wp2_with (go_at_call 12; refine (HO.out _).mono ?_; rintro e w1 ⟨rfl, rfl⟩)
  all_goals first | (exfalso; simp at *; done) | exact bodyPost_ret (results_cell_tmp_row rfl _ _ w.heap.size _ _ _ _ rfl (heap_alloc2_old w _ _) Try.underlying24 rfl info_frame) rfl ⟨rfl, by go_grown⟩
set_option maxRecDepth 100000 in
theorem renc_cnt (c o : Int) (w : World) (h0 : 2 ≤ o) (h1 : o ≤ 240) (h2 : 1 ≤ c) (h3 : c ≤ o) : Calls Try.prog 8 #[.int .i64 c, .int .i64 o] w fun e w' => e = .returned (.tuple #[.agg #[.int .i64 128, .bool false, .int .i64 1, .int .u8 c, .int .u8 0, .int .u8 0, .int .u8 0, .int .u8 0, .int .u8 0, .int .u8 0, .int .u8 0], .int .i64 0]) ∧ Below w.heap.size w w' := by
  have hO := rov_any o
  rw [ov_yes h0 h1] at hO
  have HO := Lib.hid hO
  have t0 : (o == 0) = false := by simp; omega
  have t1 : 0 < o := by omega
  have t2 : ¬ c < 1 := by omega
  have t3 : ¬ o < c := by omega
  have wv : IntKind.u8.wrap c = c := IntWalk.u8_in c ⟨by omega, by omega⟩
  clear hO h0 h1 h2 h3
  go_enter Try.func8, Try.ntmps8
  go_wp2_with (go_at_call 12; refine (HO.out _).mono ?_; rintro e w1 ⟨rfl, rfl⟩)
  exact bodyPost_ret (results_cell_tmp_row rfl _ _ w.heap.size _ _ _ _ rfl (heap_alloc2_old w _ _) Try.underlying24 rfl info_frame) rfl ⟨rfl, by go_grown⟩
theorem renc_any (c o : Int) (w : World) : Calls Try.prog 8 #[.int .i64 c, .int .i64 o] w fun e w' => e = .returned (.tuple #[.agg #[.int .i64 (pI c o), .bool false, .int .i64 (pN c o), .int .u8 (pC c o), .int .u8 0, .int .u8 0, .int .u8 0, .int .u8 0, .int .u8 0, .int .u8 0, .int .u8 0], .int .i64 (pE c o)]) ∧ Below w.heap.size w w' := by
  unfold pI pN pC pE mayP
  cases ho : isOv o with
  | false => simpa using renc_ov c o w ho
  | true =>
    cases hc : isCt c o with
    | false => simpa using renc_ct c o w ho hc
    | true =>
      rcases ct_in hc with ⟨rfl, rfl⟩ | ⟨h, h1, h2⟩
      · simpa using renc_zero w
      · rcases ov_in ho with h3 | ⟨h3, h4⟩
        · exact absurd h3 h
        · simpa [h] using renc_cnt c o w h3 h4 h1 h2
end Go.Proofs.Ythofimkjemhnoaa
