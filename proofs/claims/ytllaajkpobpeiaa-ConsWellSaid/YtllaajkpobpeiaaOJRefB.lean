/- What the document's own functions on numbers answer (Shape, power, Put, Same): the same as those of package word. -/
import Derived.Test.YtllaajkpobpeiaaOJWordB
namespace Go.Proofs.Ytllaajkpobpeiaa
open Go.RowKit
theorem byte_info : (Try.prog.info? 5).map (fun i => (i.zero, i.size, i.bytes)) = some (some (.int .u8 0), 1, 1) := by kernel_rfl

def qt (n : Int) (j : Nat) : Int := n / 256 ^ j
theorem qt_zero (n : Int) : qt n 0 = n := by simp [qt]
theorem qt_succ (n : Int) (j : Nat) : qt n (j + 1) = qt n j / 256 := by
  unfold qt
  rw [Int.pow_succ, Int.ediv_ediv_of_nonneg (Int.pow_nonneg (by omega))]
theorem qt_bounds {n : Int} (h0 : 0 ≤ n) (h1 : n ≤ 4294967295) (j : Nat) : 0 ≤ qt n j ∧ qt n j ≤ 4294967295 := by
  unfold qt
  exact ⟨Int.ediv_nonneg h0 (Int.pow_nonneg (by omega)), Int.le_trans (Int.ediv_le_self _ h0) h1⟩
def ql (n : Int) (j : Nat) : List Int := (List.range j).map fun i => qt n i % 256
theorem ql_zero (n : Int) : ql n 0 = [] := rfl
theorem ql_succ (n : Int) (j : Nat) : ql n (j + 1) = ql n j ++ [qt n j % 256] := by simp [ql, List.range_succ]
theorem ql_range (n : Int) (j : Nat) : ∀ x ∈ ql n j, 0 ≤ x ∧ x ≤ 255 := by
  intro x hx
  simp only [ql, List.mem_map] at hx
  obtain ⟨i, _, rfl⟩ := hx
  omega

theorem rput_end {k n N : Int} {s : Nat} {W wr : World} {v : Value} (hf : fitB k n = true) (hs : kSize k = s) (hN : N = if n < 0 then n + 256 ^ s else n) (hb : Below W.heap.size W wr) (hown : wr.ownsRow W.heap.size 5 1 v s ((ql N s).map (Value.int .u8))) :
    PutPost k n W (.returned (.tuple #[v, .int .i64 0])) wr := by
  have hl : ql N s = putL k n := by
    rcases size_cases hf with h | h | h
    · rw [putL1 h]; obtain rfl : s = 1 := by omega
      simp [ql, List.range_succ, qt]; subst hN; split <;> omega
    · rw [putL2 h]; obtain rfl : s = 2 := by omega
      simp [ql, List.range_succ, qt]; subst hN; split <;> omega
    · rw [putL4 h]; obtain rfl : s = 4 := by omega
      simp [ql, List.range_succ, qt]; subst hN; split <;> omega
  rw [hl] at hown
  obtain ⟨A, c, rfl, hB, _⟩ := Byt.of_own hown (putL_range k n)
  have ha : putA k n = putL k n := by simp [putA, hf]
  have he : putE k n = 0 := by simp [putE, hf]
  have hlen : (putL k n).length = s := by rw [putL_len]; omega
  exact ⟨A, c, by rw [ha, he, hlen], by rw [ha, hlen]; exact hB, hb⟩

theorem neg_ok {k n : Int} {s : Nat} (hf : fitB k n = true) (hs : kSize k = s) : 0 ≤ n + 256 ^ s := by
  simp only [fitB, decide_eq_true_eq] at hf
  rcases kind_cases k with rfl | rfl | rfl | rfl | rfl | rfl | rfl | hk
  case inr.inr.inr.inr.inr.inr.inr => have := (k_other hk).1; omega
  all_goals
    simp only [kSize, kLow, kHigh] at hf hs
    simp at hf hs
    have h14 : s = 1 ∨ s = 2 ∨ s = 4 := by omega
    rcases h14 with rfl | rfl | rfl <;> omega

end Go.Proofs.Ytllaajkpobpeiaa