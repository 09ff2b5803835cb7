/- What the plain functions of package word answer, at every kind and number: the span of a kind, its size, its least and greatest number, and which numbers fit. -/
import Derived.Test.YtoamgdcjmkkmfaaProg
import Derived.Test.YtoamgdcjmkkmfaaKDRa
import Derived.Laws.BitsAllLaws
namespace Go.Proofs.Ytoamgdcjmkkmfaa
open Go.RowKit
set_option linter.unusedSimpArgs false
set_option linter.unusedVariables false
def kSize (k : Int) : Int := if k = 1 then 1 else if k = 2 then 1 else if k = 3 then 2 else if k = 4 then 4 else if k = 5 then 1 else if k = 6 then 2 else if k = 7 then 4 else 0
def kLow (k : Int) : Int := if k = 5 then -128 else if k = 6 then -32768 else if k = 7 then -2147483648 else 0
def kHigh (k : Int) : Int := if k = 1 then 1 else if k = 2 then 255 else if k = 3 then 65535 else if k = 4 then 4294967295 else if k = 5 then 127 else if k = 6 then 32767 else if k = 7 then 2147483647 else 0

theorem kind_cases (k : Int) : k = 1 ∨ k = 2 ∨ k = 3 ∨ k = 4 ∨ k = 5 ∨ k = 6 ∨ k = 7 ∨ (¬ k = 1 ∧ ¬ k = 2 ∧ ¬ k = 3 ∧ ¬ k = 4 ∧ ¬ k = 5 ∧ ¬ k = 6 ∧ ¬ k = 7) := by omega

theorem k_other {k : Int} (h : ¬ k = 1 ∧ ¬ k = 2 ∧ ¬ k = 3 ∧ ¬ k = 4 ∧ ¬ k = 5 ∧ ¬ k = 6 ∧ ¬ k = 7) : kSize k = 0 ∧ kLow k = 0 ∧ kHigh k = 0 := by
  obtain ⟨h1, h2, h3, h4, h5, h6, h7⟩ := h
  simp [kSize, kLow, kHigh, h1, h2, h3, h4, h5, h6, h7]

theorem k_bounds (k : Int) : 0 ≤ kSize k ∧ kSize k ≤ 4 ∧ -2147483648 ≤ kLow k ∧ kLow k ≤ 0 ∧ 0 ≤ kHigh k ∧ kHigh k ≤ 4294967295 := by
  rcases kind_cases k with rfl | rfl | rfl | rfl | rfl | rfl | rfl | h
  all_goals first | (simp [kSize, kLow, kHigh]; done) | (have := k_other h; omega)

/-- The span of a kind. -/
theorem span_any (k : Int) (w : World) :
    Calls Try.prog 42 #[.int .i64 k] w fun e w' => e = .returned (.agg #[.int .i64 (kSize k), .int .i64 (kLow k), .int .i64 (kHigh k)]) ∧ Below w.heap.size w w' := by
  rcases kind_cases k with rfl | rfl | rfl | rfl | rfl | rfl | rfl | h
  case inr.inr.inr.inr.inr.inr.inr =>
    rw [(k_other h).1, (k_other h).2.1, (k_other h).2.2]
    obtain ⟨h1, h2, h3, h4, h5, h6, h7⟩ := h
    go_enter Try.func42, Try.ntmps42
    go_wp2
    go_returns
    exact ⟨rfl, by go_grown⟩
  all_goals
    go_enter Try.func42, Try.ntmps42
    go_wp2
    go_returns
    exact ⟨rfl, by go_grown⟩

theorem span_f0 (a b c : Int) (w : World) : (Instr.field 85 (.agg #[.int .i64 a, .int .i64 b, .int .i64 c]) 0).run Try.prog w = .ok (.int .i64 a) w := by kernel_rfl
theorem span_f1 (a b c : Int) (w : World) : (Instr.field 85 (.agg #[.int .i64 a, .int .i64 b, .int .i64 c]) 1).run Try.prog w = .ok (.int .i64 b) w := by kernel_rfl
theorem span_f2 (a b c : Int) (w : World) : (Instr.field 85 (.agg #[.int .i64 a, .int .i64 b, .int .i64 c]) 2).run Try.prog w = .ok (.int .i64 c) w := by kernel_rfl

theorem size_any (k : Int) (w : World) : Calls Try.prog 34 #[.int .i64 k] w fun e w' => e = .returned (.int .i64 (kSize k)) ∧ Below w.heap.size w w' := by
  have hf := span_f0 (kSize k) (kLow k) (kHigh k)
  go_enter Try.func34, Try.ntmps34
  go_wp2_with (go_at_call 42; refine (span_any _ _).mono ?_; rintro e w1 ⟨rfl, hb⟩)
  go_ret
  exact ⟨rfl, hb⟩
theorem high_any (k : Int) (w : World) : Calls Try.prog 52 #[.int .i64 k] w fun e w' => e = .returned (.int .i64 (kHigh k)) ∧ Below w.heap.size w w' := by
  have hf := span_f2 (kSize k) (kLow k) (kHigh k)
  go_enter Try.func52, Try.ntmps52
  go_wp2_with (go_at_call 42; refine (span_any _ _).mono ?_; rintro e w1 ⟨rfl, hb⟩)
  go_ret
  exact ⟨rfl, hb⟩

/-- Which numbers are a kind's. -/
def fitB (k n : Int) : Bool := decide (0 < kSize k ∧ kLow k ≤ n ∧ n ≤ kHigh k)
theorem fit_no {k n : Int} (h : ¬ (0 < kSize k ∧ kLow k ≤ n ∧ n ≤ kHigh k)) : fitB k n = false := by simp [fitB]; omega
theorem fit_yes {k n : Int} (h : 0 < kSize k ∧ kLow k ≤ n ∧ n ≤ kHigh k) : fitB k n = true := by simpa [fitB] using h

theorem fits_any (k n : Int) (w : World) : Calls Try.prog 29 #[.int .i64 k, .int .i64 n] w fun e w' => e = .returned (.bool (fitB k n)) ∧ Below w.heap.size w w' := by
  by_cases h1 : 0 < kSize k
  · by_cases h2 : kLow k ≤ n
    · by_cases h3 : n ≤ kHigh k
      · rw [fit_yes ⟨h1, h2, h3⟩]
        go_enter Try.func29, Try.ntmps29
        go_wp2_with (go_at_call 42; refine (span_any _ _).mono ?_; rintro e w1 ⟨rfl, hb⟩)
        go_ret
        exact ⟨rfl, hb.alloc hb.size _⟩
      · rw [fit_no (by omega)]
        go_enter Try.func29, Try.ntmps29
        go_wp2_with (go_at_call 42; refine (span_any _ _).mono ?_; rintro e w1 ⟨rfl, hb⟩)
        go_ret
        exact ⟨ret_bool (decide_eq_false (by omega)), hb.alloc hb.size _⟩
    · rw [fit_no (by omega)]
      go_enter Try.func29, Try.ntmps29
      go_wp2_with (go_at_call 42; refine (span_any _ _).mono ?_; rintro e w1 ⟨rfl, hb⟩)
      go_ret
      exact ⟨rfl, hb.alloc hb.size _⟩
  · rw [fit_no (by omega)]
    go_enter Try.func29, Try.ntmps29
    go_wp2_with (go_at_call 42; refine (span_any _ _).mono ?_; rintro e w1 ⟨rfl, hb⟩)
    go_ret
    exact ⟨rfl, hb.alloc hb.size _⟩
end Go.Proofs.Ytoamgdcjmkkmfaa
namespace Go.Proofs.Ytoamgdcjmkkmfaa
open Go.RowKit
set_option linter.unusedSimpArgs false
set_option linter.unusedVariables false
/-- The bytes of a number, the lowest first. -/
def putL (k n : Int) : List Int := (List.range (kSize k).toNat).map fun i => n / 256 ^ i % 256
theorem putL1 {k : Int} (h : kSize k = 1) (n : Int) : putL k n = [n % 256] := by simp [putL, h, List.range_succ]
theorem putL2 {k : Int} (h : kSize k = 2) (n : Int) : putL k n = [n % 256, n / 256 % 256] := by simp [putL, h, List.range_succ]
theorem putL4 {k : Int} (h : kSize k = 4) (n : Int) : putL k n = [n % 256, n / 256 % 256, n / 65536 % 256, n / 16777216 % 256] := by simp [putL, h, List.range_succ]
theorem putL_len (k n : Int) : (putL k n).length = (kSize k).toNat := by simp [putL]
theorem putL_range (k n : Int) : ∀ x ∈ putL k n, 0 ≤ x ∧ x ≤ 255 := by
  intro x hx
  simp only [putL, List.mem_map] at hx
  obtain ⟨i, _, rfl⟩ := hx
  omega
theorem size_cases {k n : Int} (h : fitB k n = true) : kSize k = 1 ∨ kSize k = 2 ∨ kSize k = 4 := by
  have h0 : 0 < kSize k := by simp [fitB] at h; exact h.1
  rcases kind_cases k with rfl | rfl | rfl | rfl | rfl | rfl | rfl | hk
  all_goals first | (simp [kSize]; done) | (have := (k_other hk).1; omega)

/-- What a Put answers: its bytes, and its error. -/
def putA (k n : Int) : List Int := if fitB k n = true then putL k n else []
def putE (k n : Int) : Int := if fitB k n = true then 0 else 2
theorem putA_range (k n : Int) : ∀ x ∈ putA k n, 0 ≤ x ∧ x ≤ 255 := by
  unfold putA
  split
  · exact putL_range k n
  · simp
theorem putA_len (k n : Int) : (putA k n).length ≤ 4 := by
  unfold putA
  split
  · rw [putL_len]; have := k_bounds k; omega
  · simp
def PutPost (k n : Int) (W : World) (e : Ending) (w' : World) : Prop :=
  ∃ A c, e = .returned (.tuple #[.slice A (putA k n).length c, .int .i64 (putE k n)]) ∧ Byt w' w'.heap.size A (putA k n).length c (putA k n) ∧ Below W.heap.size W w'

theorem make1 (w : World) : (Instr.makeSlice 49 (.int .i64 1) (.int .i64 1)).run Try.prog w = .ok (.slice (some ⟨w.heap.size, 0, none⟩) 1 1) (w.alloc (.cells #[.int .u8 0] 5)) := by kernel_rfl
theorem make2 (w : World) : (Instr.makeSlice 49 (.int .i64 2) (.int .i64 2)).run Try.prog w = .ok (.slice (some ⟨w.heap.size, 0, none⟩) 2 2) (w.alloc (.cells #[.int .u8 0, .int .u8 0] 5)) := by kernel_rfl
theorem make4 (w : World) : (Instr.makeSlice 49 (.int .i64 4) (.int .i64 4)).run Try.prog w = .ok (.slice (some ⟨w.heap.size, 0, none⟩) 4 4) (w.alloc (.cells #[.int .u8 0, .int .u8 0, .int .u8 0, .int .u8 0] 5)) := by kernel_rfl

theorem put_end {k n : Int} {W w2 : World} {l : List Int} (hf : fitB k n = true) (hb : Below W.heap.size W w2) (hl : l = putL k n) :
    PutPost k n W (.returned (.tuple #[.slice (some ⟨w2.heap.size, 0, none⟩) l.length l.length, .int .i64 0])) (w2.alloc (.cells (l.map (Value.int .u8)).toArray 5)) := by
  subst hl
  have ha : putA k n = putL k n := by simp [putA, hf]
  have he : putE k n = 0 := by simp [putE, hf]
  refine ⟨_, _, by rw [ha, he], ?_, hb.alloc hb.size _⟩
  rw [ha]
  have h := Byt.new w2 5 (putL k n) (putL_range k n) (by rw [putL_len]; have := k_bounds k; simp only [maxLen]; omega)
  exact h.more (by simp)

theorem put_none {k n : Int} {W w' : World} (hf : fitB k n = false) (hb : Below W.heap.size W w') : PutPost k n W (.returned (.tuple #[.slice none 0 0, .int .i64 2])) w' := by
  have ha : putA k n = [] := by simp [putA, hf]
  have he : putE k n = 2 := by simp [putE, hf]
  exact ⟨none, 0, by rw [ha, he]; rfl, by rw [ha]; exact Byt.nil_ _ _, hb⟩

theorem put_no (k n : Int) (w : World) (hf : fitB k n = false) : Calls Try.prog 45 #[.int .i64 k, .int .i64 n] w (PutPost k n w) := by
  have h := fits_any k n w
  rw [hf] at h
  have H := Lib.hid h
  have HF := Lib.hid hf
  clear h hf
  go_enter Try.func45, Try.ntmps45
  go_wp2_with (go_at_call 29; refine H.out.mono ?_; rintro e w1 ⟨rfl, hb⟩)
  go_ret2
  exact put_none HF.out hb

theorem put_yes1 (k n : Int) (w : World) (hf : fitB k n = true) (hs : kSize k = 1) : Calls Try.prog 45 #[.int .i64 k, .int .i64 n] w (PutPost k n w) := by
  have h := fits_any k n w
  rw [hf] at h
  have H := Lib.hid h
  have h2 := fun w => size_any k w
  rw [hs] at h2
  have H2 := Lib.hid h2
  have HS := Lib.hid hs
  have HF := Lib.hid hf
  have HM := make1
  clear h hf h2 hs
  go_enter Try.func45, Try.ntmps45
  go_wp2_with (first | (go_at_call 29; refine H.out.mono ?_; rintro e w1 ⟨rfl, hb⟩) | (go_at_call 34; refine (H2.out _).mono ?_; rintro e w2 ⟨rfl, hb2⟩))
  go_rounds 2
  go_ret2
  refine put_end (l := [_]) HF.out (below_trans' hb hb2) ?_
  rw [putL1 HS.out]

theorem put_yes2 (k n : Int) (w : World) (hf : fitB k n = true) (hs : kSize k = 2) : Calls Try.prog 45 #[.int .i64 k, .int .i64 n] w (PutPost k n w) := by
  have h := fits_any k n w
  rw [hf] at h
  have H := Lib.hid h
  have h2 := fun w => size_any k w
  rw [hs] at h2
  have H2 := Lib.hid h2
  have HS := Lib.hid hs
  have HF := Lib.hid hf
  have HM := make2
  clear h hf h2 hs
  go_enter Try.func45, Try.ntmps45
  go_wp2_with (first | (go_at_call 29; refine H.out.mono ?_; rintro e w1 ⟨rfl, hb⟩) | (go_at_call 34; refine (H2.out _).mono ?_; rintro e w2 ⟨rfl, hb2⟩))
  go_rounds 3
  go_ret2
  refine put_end (l := [_, _]) HF.out (below_trans' hb hb2) ?_
  rw [putL2 HS.out]

theorem put_yes4 (k n : Int) (w : World) (hf : fitB k n = true) (hs : kSize k = 4) : Calls Try.prog 45 #[.int .i64 k, .int .i64 n] w (PutPost k n w) := by
  have h := fits_any k n w
  rw [hf] at h
  have H := Lib.hid h
  have h2 := fun w => size_any k w
  rw [hs] at h2
  have H2 := Lib.hid h2
  have HS := Lib.hid hs
  have HF := Lib.hid hf
  have HM := make4
  clear h hf h2 hs
  go_enter Try.func45, Try.ntmps45
  go_wp2_with (first | (go_at_call 29; refine H.out.mono ?_; rintro e w1 ⟨rfl, hb⟩) | (go_at_call 34; refine (H2.out _).mono ?_; rintro e w2 ⟨rfl, hb2⟩))
  go_rounds 5
  go_ret2
  refine put_end (l := [_, _, _, _]) HF.out (below_trans' hb hb2) ?_
  rw [putL4 HS.out]

theorem put_any (k n : Int) (w : World) : Calls Try.prog 45 #[.int .i64 k, .int .i64 n] w (PutPost k n w) := by
  rcases Bool.eq_false_or_eq_true (fitB k n) with h | h
  · rcases size_cases h with hs | hs | hs
    · exact put_yes1 k n w h hs
    · exact put_yes2 k n w h hs
    · exact put_yes4 k n w h hs
  · exact put_no k n w h
end Go.Proofs.Ytoamgdcjmkkmfaa
namespace Go.Proofs.Ytoamgdcjmkkmfaa
open Go.RowKit
set_option linter.unusedSimpArgs false
set_option linter.unusedVariables false
theorem byte_info : (Try.prog.info? 5).map (fun i => (i.zero, i.size, i.bytes)) = some (some (.int .u8 0), 1, 1) := by kernel_rfl

def qt (n : Int) (j : Nat) : Int := n / 256 ^ j
theorem qt_zero (n : Int) : qt n 0 = n := by simp [qt]
theorem qt_succ (n : Int) (j : Nat) : qt n (j + 1) = qt n j / 256 := by
  unfold qt
  rw [Int.pow_succ, Int.ediv_ediv_of_nonneg (Int.pow_nonneg (by omega))]
theorem qt_bounds {n : Int} (h0 : 0 ≤ n) (h1 : n ≤ 4294967295) (j : Nat) : 0 ≤ qt n j ∧ qt n j ≤ 4294967295 := by
  unfold qt
  exact ⟨Int.ediv_nonneg h0 (Int.pow_nonneg (by omega)), Int.le_trans (Int.ediv_le_self _ h0) h1⟩
def ql (n : Int) (j : Nat) : List Int := (List.range j).map fun i => qt n i % 256
theorem ql_zero (n : Int) : ql n 0 = [] := rfl
theorem ql_succ (n : Int) (j : Nat) : ql n (j + 1) = ql n j ++ [qt n j % 256] := by simp [ql, List.range_succ]
theorem ql_range (n : Int) (j : Nat) : ∀ x ∈ ql n j, 0 ≤ x ∧ x ≤ 255 := by
  intro x hx
  simp only [ql, List.mem_map] at hx
  obtain ⟨i, _, rfl⟩ := hx
  omega

theorem rput_end {k n N : Int} {s : Nat} {W wr : World} {v : Value} (hf : fitB k n = true) (hs : kSize k = s) (hN : N = if n < 0 then n + 256 ^ s else n) (hb : Below W.heap.size W wr) (hown : wr.ownsRow W.heap.size 5 1 v s ((ql N s).map (Value.int .u8))) :
    PutPost k n W (.returned (.tuple #[v, .int .i64 0])) wr := by
  have hl : ql N s = putL k n := by
    rcases size_cases hf with h | h | h
    · rw [putL1 h]; obtain rfl : s = 1 := by omega
      simp [ql, List.range_succ, qt]; subst hN; split <;> omega
    · rw [putL2 h]; obtain rfl : s = 2 := by omega
      simp [ql, List.range_succ, qt]; subst hN; split <;> omega
    · rw [putL4 h]; obtain rfl : s = 4 := by omega
      simp [ql, List.range_succ, qt]; subst hN; split <;> omega
  rw [hl] at hown
  obtain ⟨A, c, rfl, hB, _⟩ := Byt.of_own hown (putL_range k n)
  have ha : putA k n = putL k n := by simp [putA, hf]
  have he : putE k n = 0 := by simp [putE, hf]
  have hlen : (putL k n).length = s := by rw [putL_len]; omega
  exact ⟨A, c, by rw [ha, he, hlen], by rw [ha, hlen]; exact hB, hb⟩

theorem neg_ok {k n : Int} {s : Nat} (hf : fitB k n = true) (hs : kSize k = s) : 0 ≤ n + 256 ^ s := by
  simp only [fitB, decide_eq_true_eq] at hf
  rcases kind_cases k with rfl | rfl | rfl | rfl | rfl | rfl | rfl | hk
  case inr.inr.inr.inr.inr.inr.inr => have := (k_other hk).1; omega
  all_goals
    simp only [kSize, kLow, kHigh] at hf hs
    simp at hf hs
    have h14 : s = 1 ∨ s = 2 ∨ s = 4 := by omega
    rcases h14 with rfl | rfl | rfl <;> omega

end Go.Proofs.Ytoamgdcjmkkmfaa
namespace Go.Proofs.Ytoamgdcjmkkmfaa
open Go.RowKit
set_option linter.unusedSimpArgs false
set_option linter.unusedVariables false
/-- The number of some bytes, the lowest first. -/
def numL : List Int → Int
  | [] => 0
  | x :: l => x + 256 * numL l
def valL (k : Int) (l : List Int) : Int := if kHigh k < numL l then numL l - 256 ^ l.length else numL l
def getN (k : Int) (l : List Int) : Int := if 0 < kSize k ∧ kSize k = l.length ∧ fitB k (valL k l) = true then valL k l else 0
def getE (k : Int) (l : List Int) : Int := if kSize k = 0 then 2 else if ¬ kSize k = l.length then 11 else if fitB k (valL k l) = true then 0 else 4
/-- What a Get answers. -/
def GetPost (k : Int) (l : List Int) (W : World) (e : Ending) (w' : World) : Prop := e = .returned (.tuple #[.int .i64 (getN k l), .int .i64 (getE k l)]) ∧ Below W.heap.size W w'

theorem get_end_none {k : Int} {l : List Int} {W w' : World} (h : kSize k = 0) (hb : Below W.heap.size W w') : GetPost k l W (.returned (.tuple #[.int .i64 0, .int .i64 2])) w' := by
  have h1 : getN k l = 0 := by unfold getN; rw [if_neg (by omega)]
  have h2 : getE k l = 2 := by unfold getE; rw [if_pos h]
  exact ⟨by rw [h1, h2], hb⟩
theorem get_end_len {k : Int} {l : List Int} {W w' : World} (h : ¬ kSize k = 0) (hl : ¬ kSize k = l.length) (hb : Below W.heap.size W w') : GetPost k l W (.returned (.tuple #[.int .i64 0, .int .i64 11])) w' := by
  have h1 : getN k l = 0 := by unfold getN; rw [if_neg (fun h => hl h.2.1)]
  have h2 : getE k l = 11 := by unfold getE; rw [if_neg h, if_pos hl]
  exact ⟨by rw [h1, h2], hb⟩
theorem get_end_yes {k n : Int} {l : List Int} {W w' : World} (h : 0 < kSize k) (hl : kSize k = l.length) (hn : valL k l = n) (hf : fitB k n = true) (hb : Below W.heap.size W w') : GetPost k l W (.returned (.tuple #[.int .i64 n, .int .i64 0])) w' := by
  have h1 : getN k l = n := by unfold getN; rw [hn, if_pos ⟨h, hl, hf⟩]
  have h2 : getE k l = 0 := by unfold getE; rw [if_neg (by omega), if_neg (by omega), hn, if_pos hf]
  exact ⟨by rw [h1, h2], hb⟩
theorem get_end_no {k n : Int} {l : List Int} {W w' : World} (h : 0 < kSize k) (hl : kSize k = l.length) (hn : valL k l = n) (hf : fitB k n = false) (hb : Below W.heap.size W w') : GetPost k l W (.returned (.tuple #[.int .i64 0, .int .i64 4])) w' := by
  have h1 : getN k l = 0 := by unfold getN; rw [hn, if_neg (by simp [hf])]
  have h2 : getE k l = 4 := by unfold getE; rw [if_neg (by omega), if_neg (by omega), hn, if_neg (by simp [hf])]
  exact ⟨by rw [h1, h2], hb⟩

theorem ofInt64 (a : Nat) (ha : a < 9223372036854775808) : (BitVec.ofInt 64 (a : Int)).toNat = a := by
  rw [BitVec.ofInt_natCast, BitVec.toNat_ofNat]; exact Nat.mod_eq_of_lt (by omega)
/-- What lies in different places is joined by adding. -/
theorem or_add (i : Nat) (a b : Int) (ha : 0 ≤ a) (ha2 : a < 2 ^ i) (hb : 0 ≤ b) (hb2 : b ≤ 255) (hi : i ≤ 24) : bits .or .i64 a (b * 2 ^ i) = a + b * 2 ^ i := by
  obtain ⟨m, rfl⟩ := Int.eq_ofNat_of_zero_le ha
  obtain ⟨q, rfl⟩ := Int.eq_ofNat_of_zero_le hb
  have hp : (2 : Int) ^ i = ((2 ^ i : Nat) : Int) := by simp
  rw [hp] at ha2 ⊢
  have hm : m < 2 ^ i := by omega
  have hle : 2 ^ i ≤ 2 ^ 24 := Nat.pow_le_pow_right (by omega) hi
  have hqi : q * 2 ^ i ≤ 255 * 2 ^ 24 := Nat.mul_le_mul (by omega) hle
  have hor : m ||| q * 2 ^ i = m + q * 2 ^ i := by
    rw [Nat.or_comm, Nat.mul_comm, ← Nat.two_pow_add_eq_or_of_lt hm, Nat.add_comm]
  have e : ((q : Int) * ((2 ^ i : Nat) : Int)) = ((q * 2 ^ i : Nat) : Int) := by simp
  rw [e]
  show IntKind.i64.wrap ((BitVec.ofInt 64 (m : Int) ||| BitVec.ofInt 64 ((q * 2 ^ i : Nat) : Int)).toNat : Int) = _
  rw [BitVec.toNat_or, ofInt64 m (by omega), ofInt64 _ (by omega), hor, IntKind.wrap_i64]
  omega
theorem or_0 (x : Int) (h : 0 ≤ x ∧ x ≤ 255) : bits .or .i64 0 x = x := by simpa using or_add 0 0 x (by omega) (by omega) h.1 h.2 (by omega)
theorem or_1 (a y : Int) (ha : 0 ≤ a ∧ a < 256) (h : 0 ≤ y ∧ y ≤ 255) : bits .or .i64 a (y * 256) = a + y * 256 := or_add 8 a y ha.1 ha.2 h.1 h.2 (by omega)
theorem or_2 (a y : Int) (ha : 0 ≤ a ∧ a < 65536) (h : 0 ≤ y ∧ y ≤ 255) : bits .or .i64 a (y * 65536) = a + y * 65536 := or_add 16 a y ha.1 ha.2 h.1 h.2 (by omega)
theorem or_3 (a y : Int) (ha : 0 ≤ a ∧ a < 16777216) (h : 0 ≤ y ∧ y ≤ 255) : bits .or .i64 a (y * 16777216) = a + y * 16777216 := or_add 24 a y ha.1 ha.2 h.1 h.2 (by omega)

theorem get_none (k : Int) (w : World) (A : Option Addr) (n c : Nat) (l : List Int) (hs : kSize k = 0) : Calls Try.prog 43 #[.int .i64 k, .slice A n c] w (GetPost k l w) := by
  have h2 := fun w => size_any k w
  rw [hs] at h2
  have H2 := Lib.hid h2
  have HS := Lib.hid hs
  clear h2 hs
  go_enter Try.func43, Try.ntmps43
  go_wp2_with (go_at_call 34; refine (H2.out _).mono ?_; rintro e w2 ⟨rfl, hb2⟩)
  go_ret2
  exact get_end_none HS.out hb2

theorem get_len (k : Int) (w : World) (A : Option Addr) (n c : Nat) (l : List Int) (hl : l.length = n) (hs : ¬ kSize k = 0) (hn : ¬ kSize k = l.length) : Calls Try.prog 43 #[.int .i64 k, .slice A n c] w (GetPost k l w) := by
  have HS := Lib.hid hs
  have HN := Lib.hid hn
  have d1 : (kSize k == 0) = false := by simpa using hs
  have d2 : ((n : Int) == kSize k) = false := by simp; omega
  have d3 : ((n : Int) != kSize k) = true := by simp; omega
  clear hs hn hl
  go_enter Try.func43, Try.ntmps43
  go_wp2_with (go_at_call 34; refine (size_any _ _).mono ?_; rintro e w2 ⟨rfl, hb2⟩)
  go_ret2
  exact get_end_len HS.out HN.out hb2

theorem get_1_0 (k : Int) (w : World) (A : Option Addr) (c : Nat) (x : Int) (h : Byt w w.heap.size A 1 c [x]) (hs : kSize k = 1) (hh : ¬ kHigh k < x) :
    Calls Try.prog 43 #[.int .i64 k, .slice A 1 c] w (GetPost k [x] w) := by
  have h2 := fun w => size_any k w
  rw [hs] at h2
  have H2 := Lib.hid h2
  have HS := Lib.hid hs
  have HV : Hid (valL k [x] = x) := by
    have e : numL [x] = x := by simp only [numL]; omega
    show valL k _ = _
    unfold valL; rw [e, if_neg hh]
  obtain ⟨b, off, rfl, hb, hc⟩ := h.cells (by omega)
  have c0 : w.cell? ⟨b, off + 0, none⟩ = some (.int .u8 x) := hc 0 (by omega)
  have r0 := h.rng x (by simp)
  rw [Nat.add_zero] at c0
  have o0 := or_0 x r0
  have kb := k_bounds k
  clear h2 hs hc h
  rcases Bool.eq_false_or_eq_true (fitB k (x)) with hf | hf
  all_goals
    have hfit := fun w => fits_any k (x) w
    rw [hf] at hfit
    have HFIT := Lib.hid hfit
    have HF := Lib.hid hf
    clear hf hfit
    go_enter Try.func43, Try.ntmps43
    go_wp2_with (go_at_call 34; refine (H2.out _).mono ?_; rintro e w2 ⟨rfl, hb2⟩; have d0 := (bcell hb2).1 b off hb; rw [c0] at d0)
    refine wp_loop_rounds 2 ?_
    repeat any_goals (rw [rounds_succ]; go_wp2_with fail)
    refine (high_any k _).mono ?_
    rintro e w3 ⟨rfl, hb3⟩
    go_wp2_with fail
    refine (HFIT.out _).mono ?_
    rintro e w4 ⟨rfl, hb4⟩
    go_wp2
    go_ret2
    first
      | exact get_end_yes (by rw [HS.out]; omega) (by rw [HS.out]; rfl) HV.out HF.out (below_trans' (below_trans' hb2 hb3) hb4)
      | exact get_end_no (by rw [HS.out]; omega) (by rw [HS.out]; rfl) HV.out HF.out (below_trans' (below_trans' hb2 hb3) hb4)

theorem get_1_1 (k : Int) (w : World) (A : Option Addr) (c : Nat) (x : Int) (h : Byt w w.heap.size A 1 c [x]) (hs : kSize k = 1) (hh : kHigh k < x) :
    Calls Try.prog 43 #[.int .i64 k, .slice A 1 c] w (GetPost k [x] w) := by
  have h2 := fun w => size_any k w
  rw [hs] at h2
  have H2 := Lib.hid h2
  have HS := Lib.hid hs
  have HV : Hid (valL k [x] = x - 256) := by
    have e : numL [x] = x := by simp only [numL]; omega
    show valL k _ = _
    unfold valL; rw [e, if_pos hh]; simp
  obtain ⟨b, off, rfl, hb, hc⟩ := h.cells (by omega)
  have c0 : w.cell? ⟨b, off + 0, none⟩ = some (.int .u8 x) := hc 0 (by omega)
  have r0 := h.rng x (by simp)
  rw [Nat.add_zero] at c0
  have o0 := or_0 x r0
  have kb := k_bounds k
  clear h2 hs hc h
  rcases Bool.eq_false_or_eq_true (fitB k (x - 256)) with hf | hf
  all_goals
    have hfit := fun w => fits_any k (x - 256) w
    rw [hf] at hfit
    have HFIT := Lib.hid hfit
    have HF := Lib.hid hf
    clear hf hfit
    go_enter Try.func43, Try.ntmps43
    go_wp2_with (go_at_call 34; refine (H2.out _).mono ?_; rintro e w2 ⟨rfl, hb2⟩; have d0 := (bcell hb2).1 b off hb; rw [c0] at d0)
    refine wp_loop_rounds 2 ?_
    repeat any_goals (rw [rounds_succ]; go_wp2_with fail)
    refine (high_any k _).mono ?_
    rintro e w3 ⟨rfl, hb3⟩
    go_wp2_with fail
    refine (HFIT.out _).mono ?_
    rintro e w4 ⟨rfl, hb4⟩
    go_wp2
    go_ret2
    first
      | exact get_end_yes (by rw [HS.out]; omega) (by rw [HS.out]; rfl) HV.out HF.out (below_trans' (below_trans' hb2 hb3) hb4)
      | exact get_end_no (by rw [HS.out]; omega) (by rw [HS.out]; rfl) HV.out HF.out (below_trans' (below_trans' hb2 hb3) hb4)

theorem get_2_0 (k : Int) (w : World) (A : Option Addr) (c : Nat) (x y : Int) (h : Byt w w.heap.size A 2 c [x, y]) (hs : kSize k = 2) (hh : ¬ kHigh k < x + y * 256) :
    Calls Try.prog 43 #[.int .i64 k, .slice A 2 c] w (GetPost k [x, y] w) := by
  have h2 := fun w => size_any k w
  rw [hs] at h2
  have H2 := Lib.hid h2
  have HS := Lib.hid hs
  have HV : Hid (valL k [x, y] = x + y * 256) := by
    have e : numL [x, y] = x + y * 256 := by simp only [numL]; omega
    show valL k _ = _
    unfold valL; rw [e, if_neg hh]
  obtain ⟨b, off, rfl, hb, hc⟩ := h.cells (by omega)
  have c0 : w.cell? ⟨b, off + 0, none⟩ = some (.int .u8 x) := hc 0 (by omega)
  have r0 := h.rng x (by simp)
  have c1 : w.cell? ⟨b, off + 1, none⟩ = some (.int .u8 y) := hc 1 (by omega)
  have r1 := h.rng y (by simp)
  rw [Nat.add_zero] at c0
  have o0 := or_0 x r0
  have o1 := or_1 (x) y (by omega) r1
  have kb := k_bounds k
  clear h2 hs hc h
  rcases Bool.eq_false_or_eq_true (fitB k (x + y * 256)) with hf | hf
  all_goals
    have hfit := fun w => fits_any k (x + y * 256) w
    rw [hf] at hfit
    have HFIT := Lib.hid hfit
    have HF := Lib.hid hf
    clear hf hfit
    go_enter Try.func43, Try.ntmps43
    go_wp2_with (go_at_call 34; refine (H2.out _).mono ?_; rintro e w2 ⟨rfl, hb2⟩; have d0 := (bcell hb2).1 b off hb; have d1 := (bcell hb2).1 b (off + 1) hb; rw [c0] at d0; rw [c1] at d1)
    refine wp_loop_rounds 3 ?_
    repeat any_goals (rw [rounds_succ]; go_wp2_with fail)
    refine (high_any k _).mono ?_
    rintro e w3 ⟨rfl, hb3⟩
    go_wp2_with fail
    refine (HFIT.out _).mono ?_
    rintro e w4 ⟨rfl, hb4⟩
    go_wp2
    go_ret2
    first
      | exact get_end_yes (by rw [HS.out]; omega) (by rw [HS.out]; rfl) HV.out HF.out (below_trans' (below_trans' hb2 hb3) hb4)
      | exact get_end_no (by rw [HS.out]; omega) (by rw [HS.out]; rfl) HV.out HF.out (below_trans' (below_trans' hb2 hb3) hb4)

theorem get_2_1 (k : Int) (w : World) (A : Option Addr) (c : Nat) (x y : Int) (h : Byt w w.heap.size A 2 c [x, y]) (hs : kSize k = 2) (hh : kHigh k < x + y * 256) :
    Calls Try.prog 43 #[.int .i64 k, .slice A 2 c] w (GetPost k [x, y] w) := by
  have h2 := fun w => size_any k w
  rw [hs] at h2
  have H2 := Lib.hid h2
  have HS := Lib.hid hs
  have HV : Hid (valL k [x, y] = x + y * 256 - 65536) := by
    have e : numL [x, y] = x + y * 256 := by simp only [numL]; omega
    show valL k _ = _
    unfold valL; rw [e, if_pos hh]; simp
  obtain ⟨b, off, rfl, hb, hc⟩ := h.cells (by omega)
  have c0 : w.cell? ⟨b, off + 0, none⟩ = some (.int .u8 x) := hc 0 (by omega)
  have r0 := h.rng x (by simp)
  have c1 : w.cell? ⟨b, off + 1, none⟩ = some (.int .u8 y) := hc 1 (by omega)
  have r1 := h.rng y (by simp)
  rw [Nat.add_zero] at c0
  have o0 := or_0 x r0
  have o1 := or_1 (x) y (by omega) r1
  have kb := k_bounds k
  clear h2 hs hc h
  rcases Bool.eq_false_or_eq_true (fitB k (x + y * 256 - 65536)) with hf | hf
  all_goals
    have hfit := fun w => fits_any k (x + y * 256 - 65536) w
    rw [hf] at hfit
    have HFIT := Lib.hid hfit
    have HF := Lib.hid hf
    clear hf hfit
    go_enter Try.func43, Try.ntmps43
    go_wp2_with (go_at_call 34; refine (H2.out _).mono ?_; rintro e w2 ⟨rfl, hb2⟩; have d0 := (bcell hb2).1 b off hb; have d1 := (bcell hb2).1 b (off + 1) hb; rw [c0] at d0; rw [c1] at d1)
    refine wp_loop_rounds 3 ?_
    repeat any_goals (rw [rounds_succ]; go_wp2_with fail)
    refine (high_any k _).mono ?_
    rintro e w3 ⟨rfl, hb3⟩
    go_wp2_with fail
    refine (HFIT.out _).mono ?_
    rintro e w4 ⟨rfl, hb4⟩
    go_wp2
    go_ret2
    first
      | exact get_end_yes (by rw [HS.out]; omega) (by rw [HS.out]; rfl) HV.out HF.out (below_trans' (below_trans' hb2 hb3) hb4)
      | exact get_end_no (by rw [HS.out]; omega) (by rw [HS.out]; rfl) HV.out HF.out (below_trans' (below_trans' hb2 hb3) hb4)

theorem get_4_0 (k : Int) (w : World) (A : Option Addr) (c : Nat) (x y z u : Int) (h : Byt w w.heap.size A 4 c [x, y, z, u]) (hs : kSize k = 4) (hh : ¬ kHigh k < x + y * 256 + z * 65536 + u * 16777216) :
    Calls Try.prog 43 #[.int .i64 k, .slice A 4 c] w (GetPost k [x, y, z, u] w) := by
  have h2 := fun w => size_any k w
  rw [hs] at h2
  have H2 := Lib.hid h2
  have HS := Lib.hid hs
  have HV : Hid (valL k [x, y, z, u] = x + y * 256 + z * 65536 + u * 16777216) := by
    have e : numL [x, y, z, u] = x + y * 256 + z * 65536 + u * 16777216 := by simp only [numL]; omega
    show valL k _ = _
    unfold valL; rw [e, if_neg hh]
  obtain ⟨b, off, rfl, hb, hc⟩ := h.cells (by omega)
  have c0 : w.cell? ⟨b, off + 0, none⟩ = some (.int .u8 x) := hc 0 (by omega)
  have r0 := h.rng x (by simp)
  have c1 : w.cell? ⟨b, off + 1, none⟩ = some (.int .u8 y) := hc 1 (by omega)
  have r1 := h.rng y (by simp)
  have c2 : w.cell? ⟨b, off + 2, none⟩ = some (.int .u8 z) := hc 2 (by omega)
  have r2 := h.rng z (by simp)
  have c3 : w.cell? ⟨b, off + 3, none⟩ = some (.int .u8 u) := hc 3 (by omega)
  have r3 := h.rng u (by simp)
  rw [Nat.add_zero] at c0
  have o0 := or_0 x r0
  have o1 := or_1 (x) y (by omega) r1
  have o2 := or_2 (x + y * 256) z (by omega) r2
  have o3 := or_3 (x + y * 256 + z * 65536) u (by omega) r3
  have kb := k_bounds k
  clear h2 hs hc h
  rcases Bool.eq_false_or_eq_true (fitB k (x + y * 256 + z * 65536 + u * 16777216)) with hf | hf
  all_goals
    have hfit := fun w => fits_any k (x + y * 256 + z * 65536 + u * 16777216) w
    rw [hf] at hfit
    have HFIT := Lib.hid hfit
    have HF := Lib.hid hf
    clear hf hfit
    go_enter Try.func43, Try.ntmps43
    go_wp2_with (go_at_call 34; refine (H2.out _).mono ?_; rintro e w2 ⟨rfl, hb2⟩; have d0 := (bcell hb2).1 b off hb; have d1 := (bcell hb2).1 b (off + 1) hb; have d2 := (bcell hb2).1 b (off + 2) hb; have d3 := (bcell hb2).1 b (off + 3) hb; rw [c0] at d0; rw [c1] at d1; rw [c2] at d2; rw [c3] at d3)
    refine wp_loop_rounds 5 ?_
    repeat any_goals (rw [rounds_succ]; go_wp2_with fail)
    refine (high_any k _).mono ?_
    rintro e w3 ⟨rfl, hb3⟩
    go_wp2_with fail
    refine (HFIT.out _).mono ?_
    rintro e w4 ⟨rfl, hb4⟩
    go_wp2
    go_ret2
    first
      | exact get_end_yes (by rw [HS.out]; omega) (by rw [HS.out]; rfl) HV.out HF.out (below_trans' (below_trans' hb2 hb3) hb4)
      | exact get_end_no (by rw [HS.out]; omega) (by rw [HS.out]; rfl) HV.out HF.out (below_trans' (below_trans' hb2 hb3) hb4)

theorem get_4_1 (k : Int) (w : World) (A : Option Addr) (c : Nat) (x y z u : Int) (h : Byt w w.heap.size A 4 c [x, y, z, u]) (hs : kSize k = 4) (hh : kHigh k < x + y * 256 + z * 65536 + u * 16777216) :
    Calls Try.prog 43 #[.int .i64 k, .slice A 4 c] w (GetPost k [x, y, z, u] w) := by
  have h2 := fun w => size_any k w
  rw [hs] at h2
  have H2 := Lib.hid h2
  have HS := Lib.hid hs
  have HV : Hid (valL k [x, y, z, u] = x + y * 256 + z * 65536 + u * 16777216 - 4294967296) := by
    have e : numL [x, y, z, u] = x + y * 256 + z * 65536 + u * 16777216 := by simp only [numL]; omega
    show valL k _ = _
    unfold valL; rw [e, if_pos hh]; simp
  obtain ⟨b, off, rfl, hb, hc⟩ := h.cells (by omega)
  have c0 : w.cell? ⟨b, off + 0, none⟩ = some (.int .u8 x) := hc 0 (by omega)
  have r0 := h.rng x (by simp)
  have c1 : w.cell? ⟨b, off + 1, none⟩ = some (.int .u8 y) := hc 1 (by omega)
  have r1 := h.rng y (by simp)
  have c2 : w.cell? ⟨b, off + 2, none⟩ = some (.int .u8 z) := hc 2 (by omega)
  have r2 := h.rng z (by simp)
  have c3 : w.cell? ⟨b, off + 3, none⟩ = some (.int .u8 u) := hc 3 (by omega)
  have r3 := h.rng u (by simp)
  rw [Nat.add_zero] at c0
  have o0 := or_0 x r0
  have o1 := or_1 (x) y (by omega) r1
  have o2 := or_2 (x + y * 256) z (by omega) r2
  have o3 := or_3 (x + y * 256 + z * 65536) u (by omega) r3
  have kb := k_bounds k
  clear h2 hs hc h
  rcases Bool.eq_false_or_eq_true (fitB k (x + y * 256 + z * 65536 + u * 16777216 - 4294967296)) with hf | hf
  all_goals
    have hfit := fun w => fits_any k (x + y * 256 + z * 65536 + u * 16777216 - 4294967296) w
    rw [hf] at hfit
    have HFIT := Lib.hid hfit
    have HF := Lib.hid hf
    clear hf hfit
    go_enter Try.func43, Try.ntmps43
    go_wp2_with (go_at_call 34; refine (H2.out _).mono ?_; rintro e w2 ⟨rfl, hb2⟩; have d0 := (bcell hb2).1 b off hb; have d1 := (bcell hb2).1 b (off + 1) hb; have d2 := (bcell hb2).1 b (off + 2) hb; have d3 := (bcell hb2).1 b (off + 3) hb; rw [c0] at d0; rw [c1] at d1; rw [c2] at d2; rw [c3] at d3)
    refine wp_loop_rounds 5 ?_
    repeat any_goals (rw [rounds_succ]; go_wp2_with fail)
    refine (high_any k _).mono ?_
    rintro e w3 ⟨rfl, hb3⟩
    go_wp2_with fail
    refine (HFIT.out _).mono ?_
    rintro e w4 ⟨rfl, hb4⟩
    go_wp2
    go_ret2
    first
      | exact get_end_yes (by rw [HS.out]; omega) (by rw [HS.out]; rfl) HV.out HF.out (below_trans' (below_trans' hb2 hb3) hb4)
      | exact get_end_no (by rw [HS.out]; omega) (by rw [HS.out]; rfl) HV.out HF.out (below_trans' (below_trans' hb2 hb3) hb4)

theorem get_any (k : Int) (w : World) (A : Option Addr) (n c : Nat) (l : List Int) (h : Byt w w.heap.size A n c l) : Calls Try.prog 43 #[.int .i64 k, .slice A n c] w (GetPost k l w) := by
  by_cases h0 : kSize k = 0
  · exact get_none k w A n c l h0
  by_cases hl : kSize k = l.length
  case neg => exact get_len k w A n c l h.len h0 hl
  have h14 : kSize k = 1 ∨ kSize k = 2 ∨ kSize k = 4 := by
    rcases kind_cases k with rfl | rfl | rfl | rfl | rfl | rfl | rfl | hk
    all_goals first | (simp [kSize]; done) | (have := (k_other hk).1; omega)
  have hn := h.len
  rcases h14 with hs | hs | hs
  · obtain rfl : n = 1 := by omega
    obtain ⟨x, rfl⟩ : ∃ x, l = [x] := List.length_eq_one_iff.1 hn
    by_cases hh : kHigh k < x
    · exact get_1_1 k w A c x h hs hh
    · exact get_1_0 k w A c x h hs hh
  · obtain rfl : n = 2 := by omega
    obtain ⟨x, y, rfl⟩ : ∃ x y, l = [x, y] := by
      match l, hn with
      | [x, y], _ => exact ⟨x, y, rfl⟩
    by_cases hh : kHigh k < x + y * 256
    · exact get_2_1 k w A c x y h hs hh
    · exact get_2_0 k w A c x y h hs hh
  · obtain rfl : n = 4 := by omega
    obtain ⟨x, y, z, u, rfl⟩ : ∃ x y z u, l = [x, y, z, u] := by
      match l, hn with
      | [x, y, z, u], _ => exact ⟨x, y, z, u, rfl⟩
    by_cases hh : kHigh k < x + y * 256 + z * 65536 + u * 16777216
    · exact get_4_1 k w A c x y z u h hs hh
    · exact get_4_0 k w A c x y z u h hs hh
end Go.Proofs.Ytoamgdcjmkkmfaa
namespace Go.Proofs.Ytoamgdcjmkkmfaa
open Go.RowKit
set_option linter.unusedSimpArgs false
set_option linter.unusedVariables false
theorem get_end_yes2 {k n m : Int} {l : List Int} {W w' : World} (h : 0 < kSize k) (hl : kSize k = l.length) (hn : valL k l = n) (hf : fitB k n = true) (hb : Below W.heap.size W w') (e : m = n) : GetPost k l W (.returned (.tuple #[.int .i64 m, .int .i64 0])) w' := by
  subst e
  exact get_end_yes h hl hn hf hb

theorem fit_parts {k v : Int} (h0 : 0 < kSize k) : (fitB k v = true ∧ kLow k ≤ v ∧ v ≤ kHigh k) ∨ (fitB k v = false ∧ v < kLow k) ∨ (fitB k v = false ∧ kLow k ≤ v ∧ kHigh k < v) := by
  by_cases h1 : kLow k ≤ v
  · by_cases h2 : v ≤ kHigh k
    · exact .inl ⟨fit_yes ⟨h0, h1, h2⟩, h1, h2⟩
    · exact .inr (.inr ⟨fit_no (by omega), h1, by omega⟩)
  · exact .inr (.inl ⟨fit_no (by omega), by omega⟩)

end Go.Proofs.Ytoamgdcjmkkmfaa