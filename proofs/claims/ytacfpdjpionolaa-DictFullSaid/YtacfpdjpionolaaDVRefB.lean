/- What the document's own functions on numbers answer (Shape, power, Put, Same): the same as those of package word. -/
import Derived.Test.YtacfpdjpionolaaDVWordB
namespace Go.Proofs.Ytacfpdjpionolaa
open Go.RowKit
theorem shape_any (k : Int) (w : World) :
    Calls Try.prog 53 #[.int .i64 k] w fun e w' => e = .returned (.tuple #[.int .i64 (kSize k), .int .i64 (kLow k), .int .i64 (kHigh k)]) ∧ w = w' := by
  rcases kind_cases k with rfl | rfl | rfl | rfl | rfl | rfl | rfl | h
  case inr.inr.inr.inr.inr.inr.inr =>
    rw [(k_other h).1, (k_other h).2.1, (k_other h).2.2]
    obtain ⟨h1, h2, h3, h4, h5, h6, h7⟩ := h
    go_enter Try.func53, Try.ntmps53
    go_wp2
    go_ret3
    exact ⟨rfl, rfl⟩
  all_goals
    go_enter Try.func53, Try.ntmps53
    go_wp2
    go_ret3
    exact ⟨rfl, rfl⟩

theorem power_any (s : Int) (w : World) (hs : s = 1 ∨ s = 2 ∨ s = 4) :
    Calls Try.prog 76 #[.int .i64 s] w fun e w' => e = .returned (.int .i64 (256 ^ s.toNat)) ∧ w = w' := by
  rcases hs with rfl | rfl | rfl
  all_goals
    go_enter Try.func76, Try.ntmps76
    go_wp2
    go_rounds 5
    go_ret
    exact ⟨rfl, rfl⟩

theorem byte_info : (Try.prog.info? 5).map (fun i => (i.zero, i.size, i.bytes)) = some (some (.int .u8 0), 1, 1) := by kernel_rfl

theorem rput_no (k n : Int) (w : World) (hf : fitB k n = false) : Calls Try.prog 66 #[.int .i64 k, .int .i64 n] w (PutPost k n w) := by
  have HF := Lib.hid hf
  have hk := k_bounds k
  by_cases h0 : kSize k = 0
  · have hs : (kSize k == 0) = true := by simp [h0]
    clear hf h0
    go_enter Try.func66, Try.ntmps66
    go_wp2_with (go_at_call 53; refine (shape_any _ _).mono ?_; rintro e w1 ⟨rfl, rfl⟩)
    go_ret2
    exact put_none HF.out (Below.refl _ _)
  · have hs : (kSize k == 0) = false := by simp [h0]
    have h2 : ¬ (kLow k ≤ n ∧ n ≤ kHigh k) := fun h => by rw [fit_yes ⟨by omega, h⟩] at hf; cases hf
    clear hf
    by_cases h1 : n < kLow k
    · go_enter Try.func66, Try.ntmps66
      go_wp2_with (go_at_call 53; refine (shape_any _ _).mono ?_; rintro e w1 ⟨rfl, rfl⟩)
      go_ret2
      exact put_none HF.out (Below.refl _ _)
    · have h3 : kHigh k < n := by omega
      clear h2
      go_enter Try.func66, Try.ntmps66
      go_wp2_with (go_at_call 53; refine (shape_any _ _).mono ?_; rintro e w1 ⟨rfl, rfl⟩)
      go_ret2
      exact put_none HF.out (Below.refl _ _)

def qt (n : Int) (j : Nat) : Int := n / 256 ^ j
theorem qt_zero (n : Int) : qt n 0 = n := by simp [qt]
theorem qt_succ (n : Int) (j : Nat) : qt n (j + 1) = qt n j / 256 := by
  unfold qt
  rw [Int.pow_succ, Int.ediv_ediv_of_nonneg (Int.pow_nonneg (by omega))]
theorem qt_bounds {n : Int} (h0 : 0 ≤ n) (h1 : n ≤ 4294967295) (j : Nat) : 0 ≤ qt n j ∧ qt n j ≤ 4294967295 := by
  unfold qt
  exact ⟨Int.ediv_nonneg h0 (Int.pow_nonneg (by omega)), Int.le_trans (Int.ediv_le_self _ h0) h1⟩
def ql (n : Int) (j : Nat) : List Int := (List.range j).map fun i => qt n i % 256
theorem ql_zero (n : Int) : ql n 0 = [] := rfl
theorem ql_succ (n : Int) (j : Nat) : ql n (j + 1) = ql n j ++ [qt n j % 256] := by simp [ql, List.range_succ]
theorem ql_range (n : Int) (j : Nat) : ∀ x ∈ ql n j, 0 ≤ x ∧ x ≤ 255 := by
  intro x hx
  simp only [ql, List.mem_map] at hx
  obtain ⟨i, _, rfl⟩ := hx
  omega

theorem rput_end {k n N : Int} {s : Nat} {W wr : World} {v : Value} (hf : fitB k n = true) (hs : kSize k = s) (hN : N = if n < 0 then n + 256 ^ s else n) (hb : Below W.heap.size W wr) (hown : wr.ownsRow W.heap.size 5 1 v s ((ql N s).map (Value.int .u8))) :
    PutPost k n W (.returned (.tuple #[v, .int .i64 0])) wr := by
  have hl : ql N s = putL k n := by
    rcases size_cases hf with h | h | h
    · rw [putL1 h]; obtain rfl : s = 1 := by omega
      simp [ql, List.range_succ, qt]; subst hN; split <;> omega
    · rw [putL2 h]; obtain rfl : s = 2 := by omega
      simp [ql, List.range_succ, qt]; subst hN; split <;> omega
    · rw [putL4 h]; obtain rfl : s = 4 := by omega
      simp [ql, List.range_succ, qt]; subst hN; split <;> omega
  rw [hl] at hown
  obtain ⟨A, c, rfl, hB, _⟩ := Byt.of_own hown (putL_range k n)
  have ha : putA k n = putL k n := by simp [putA, hf]
  have he : putE k n = 0 := by simp [putE, hf]
  have hlen : (putL k n).length = s := by rw [putL_len]; omega
  exact ⟨A, c, by rw [ha, he, hlen], by rw [ha, hlen]; exact hB, hb⟩

theorem neg_ok {k n : Int} {s : Nat} (hf : fitB k n = true) (hs : kSize k = s) : 0 ≤ n + 256 ^ s := by
  simp only [fitB, decide_eq_true_eq] at hf
  rcases kind_cases k with rfl | rfl | rfl | rfl | rfl | rfl | rfl | hk
  case inr.inr.inr.inr.inr.inr.inr => have := (k_other hk).1; omega
  all_goals
    simp only [kSize, kLow, kHigh] at hf hs
    simp at hf hs
    have h14 : s = 1 ∨ s = 2 ∨ s = 4 := by omega
    rcases h14 with rfl | rfl | rfl <;> omega

theorem rput_yes (k n : Int) (w : World) (hf : fitB k n = true) (s : Nat) (hs : kSize k = s) (h14 : s = 1 ∨ s = 2 ∨ s = 4) : Calls Try.prog 66 #[.int .i64 k, .int .i64 n] w (PutPost k n w) := by
  have hk := k_bounds k
  have hng := neg_ok hf hs
  have hfit : kLow k ≤ n ∧ n ≤ kHigh k := by simp [fitB] at hf; exact hf.2
  have hsh := fun w => shape_any k w
  rw [hs] at hsh
  have HSH := Lib.hid hsh
  have HF := Lib.hid hf
  have HS := Lib.hid hs
  have hz : ((s : Int) == 0) = false := by simp; omega
  obtain ⟨p, hpw, hp0, hp1, hpe⟩ : ∃ p : Int, (∀ w, Calls Try.prog 76 #[.int .i64 s] w fun e w' => e = .returned (.int .i64 p) ∧ w = w') ∧ 0 ≤ n + p ∧ p ≤ 4294967296 ∧ p = 256 ^ s :=
    ⟨256 ^ s, fun w => by simpa using power_any s w (by omega), hng, by rcases h14 with rfl | rfl | rfl <;> decide, rfl⟩
  have HPW := Lib.hid hpw
  have HPE := Lib.hid hpe
  obtain ⟨ha, hb⟩ := hfit
  have hs4 : s ≤ 4 := by omega
  clear hf hs hsh hpw hpe hng h14
  by_cases hneg : n < 0
  · have HNE : Hid (n + p = if n < 0 then n + 256 ^ s else n) := by rw [if_pos hneg, HPE.out]; rfl
    have hN0 : 0 ≤ n + p := hp0
    have hN1 : n + p ≤ 4294967295 := by omega
    go_enter Try.func66, Try.ntmps66
    go_wp2_with (first | (go_at_call 53; refine (HSH.out _).mono ?_; rintro e w1 ⟨rfl, rfl⟩) | (go_at_call 76; refine (HPW.out _).mono ?_; rintro e w1 ⟨rfl, rfl⟩))
    go_loopw [9, 10, 1] (fun v i m wr => ∃ j : Nat, j ≤ s ∧ i = .int .i64 j ∧ m = .int .i64 (qt (n + p) j) ∧ wr.ownsRow w.heap.size 5 1 v j ((ql (n + p) j).map (Value.int .u8)) ∧ Below w.heap.size w wr) (fun _ i _ _ => s - (intOf i).toNat)
    case atStart => exact ⟨0, Nat.zero_le _, rfl, by rw [qt_zero], World.ownsRow_lit w #[] 0 (Nat.le_refl _) (by simp [maxLen]) rfl, (Below.refl _ _).alloc (Nat.le_refl _) _⟩
    case round =>
      obtain ⟨j, hj, rfl, rfl, hown, hbel⟩ := hrel
      have hq := qt_bounds hN0 hN1 j
      by_cases hlt : j < s
      · go_wp2_with (at_builtin; refine wpList_byte rfl (.tmp 41) (.tmp 45) rfl Try.underlying36 byte_info rfl hown rfl (by omega) hbel.size ?_; intro v' w' hown' hbel')
        go_roundw
        case rel => exact ⟨j + 1, by omega, by go_num, by rw [qt_succ], by rw [ql_succ]; exact hown', hbel.trans hbel'⟩
        case measure => simp [intOf]; omega
      · obtain rfl : j = s := by omega
        go_wp2
        go_ret2
        exact rput_end HF.out HS.out HNE.out hbel hown
  · have HNE : Hid (n = if n < 0 then n + 256 ^ s else n) := by rw [if_neg hneg]; rfl
    have hN0 : 0 ≤ n := by omega
    have hN1 : n ≤ 4294967295 := by omega
    have hd : decide (n < 0) = false := by simp; omega
    have hd2 : decide (n < kLow k) = false := by simp; omega
    have hd3 : decide (kHigh k < n) = false := by simp; omega
    go_enter Try.func66, Try.ntmps66
    go_wp2_with (go_at_call 53; refine (HSH.out _).mono ?_; rintro e w1 ⟨rfl, rfl⟩)
    go_loopw [9, 10, 1] (fun v i m wr => ∃ j : Nat, j ≤ s ∧ i = .int .i64 j ∧ m = .int .i64 (qt n j) ∧ wr.ownsRow w.heap.size 5 1 v j ((ql n j).map (Value.int .u8)) ∧ Below w.heap.size w wr) (fun _ i _ _ => s - (intOf i).toNat)
    case atStart => exact ⟨0, Nat.zero_le _, rfl, by rw [qt_zero], World.ownsRow_lit w #[] 0 (Nat.le_refl _) (by simp [maxLen]) rfl, (Below.refl _ _).alloc (Nat.le_refl _) _⟩
    case round =>
      obtain ⟨j, hj, rfl, rfl, hown, hbel⟩ := hrel
      have hq := qt_bounds hN0 hN1 j
      by_cases hlt : j < s
      · go_wp2_with (at_builtin; refine wpList_byte rfl (.tmp 41) (.tmp 45) rfl Try.underlying36 byte_info rfl hown rfl (by omega) hbel.size ?_; intro v' w' hown' hbel')
        go_roundw
        case rel => exact ⟨j + 1, by omega, by go_num, by rw [qt_succ], by rw [ql_succ]; exact hown', hbel.trans hbel'⟩
        case measure => simp [intOf]; omega
      · obtain rfl : j = s := by omega
        go_wp2
        go_ret2
        exact rput_end HF.out HS.out HNE.out hbel hown

theorem rput_any (k n : Int) (w : World) : Calls Try.prog 66 #[.int .i64 k, .int .i64 n] w (PutPost k n w) := by
  rcases Bool.eq_false_or_eq_true (fitB k n) with h | h
  · rcases size_cases h with hs | hs | hs
    · exact rput_yes k n w h 1 hs (by omega)
    · exact rput_yes k n w h 2 hs (by omega)
    · exact rput_yes k n w h 4 hs (by omega)
  · exact rput_no k n w h
end Go.Proofs.Ytacfpdjpionolaa