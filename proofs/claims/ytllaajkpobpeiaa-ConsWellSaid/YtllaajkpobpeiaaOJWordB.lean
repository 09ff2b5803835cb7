/- What word.Put answers: the bytes of a number that fits its kind, the lowest first; else an error. -/
import Derived.Test.YtllaajkpobpeiaaOJWordA
namespace Go.Proofs.Ytllaajkpobpeiaa
open Go.RowKit
/-- The bytes of a number, the lowest first. -/
def putL (k n : Int) : List Int := (List.range (kSize k).toNat).map fun i => n / 256 ^ i % 256
theorem putL1 {k : Int} (h : kSize k = 1) (n : Int) : putL k n = [n % 256] := by simp [putL, h, List.range_succ]
theorem putL2 {k : Int} (h : kSize k = 2) (n : Int) : putL k n = [n % 256, n / 256 % 256] := by simp [putL, h, List.range_succ]
theorem putL4 {k : Int} (h : kSize k = 4) (n : Int) : putL k n = [n % 256, n / 256 % 256, n / 65536 % 256, n / 16777216 % 256] := by simp [putL, h, List.range_succ]
theorem putL_len (k n : Int) : (putL k n).length = (kSize k).toNat := by simp [putL]
theorem putL_range (k n : Int) : ∀ x ∈ putL k n, 0 ≤ x ∧ x ≤ 255 := by
  intro x hx
  simp only [putL, List.mem_map] at hx
  obtain ⟨i, _, rfl⟩ := hx
  omega
theorem size_cases {k n : Int} (h : fitB k n = true) : kSize k = 1 ∨ kSize k = 2 ∨ kSize k = 4 := by
  have h0 : 0 < kSize k := by simp [fitB] at h; exact h.1
  rcases kind_cases k with rfl | rfl | rfl | rfl | rfl | rfl | rfl | hk
  all_goals first | (simp [kSize]; done) | (have := (k_other hk).1; omega)

/-- What a Put answers: its bytes, and its error. -/
def putA (k n : Int) : List Int := if fitB k n = true then putL k n else []
def putE (k n : Int) : Int := if fitB k n = true then 0 else 2
theorem putA_range (k n : Int) : ∀ x ∈ putA k n, 0 ≤ x ∧ x ≤ 255 := by
  unfold putA
  split
  · exact putL_range k n
  · simp
theorem putA_len (k n : Int) : (putA k n).length ≤ 4 := by
  unfold putA
  split
  · rw [putL_len]; have := k_bounds k; omega
  · simp
def PutPost (k n : Int) (W : World) (e : Ending) (w' : World) : Prop :=
  ∃ A c, e = .returned (.tuple #[.slice A (putA k n).length c, .int .i64 (putE k n)]) ∧ Byt w' w'.heap.size A (putA k n).length c (putA k n) ∧ Below W.heap.size W w'

theorem make1 (w : World) : (Instr.makeSlice 43 (.int .i64 1) (.int .i64 1)).run Try.prog w = .ok (.slice (some ⟨w.heap.size, 0, none⟩) 1 1) (w.alloc (.cells #[.int .u8 0] 5)) := by kernel_rfl
theorem make2 (w : World) : (Instr.makeSlice 43 (.int .i64 2) (.int .i64 2)).run Try.prog w = .ok (.slice (some ⟨w.heap.size, 0, none⟩) 2 2) (w.alloc (.cells #[.int .u8 0, .int .u8 0] 5)) := by kernel_rfl
theorem make4 (w : World) : (Instr.makeSlice 43 (.int .i64 4) (.int .i64 4)).run Try.prog w = .ok (.slice (some ⟨w.heap.size, 0, none⟩) 4 4) (w.alloc (.cells #[.int .u8 0, .int .u8 0, .int .u8 0, .int .u8 0] 5)) := by kernel_rfl

theorem put_end {k n : Int} {W w2 : World} {l : List Int} (hf : fitB k n = true) (hb : Below W.heap.size W w2) (hl : l = putL k n) :
    PutPost k n W (.returned (.tuple #[.slice (some ⟨w2.heap.size, 0, none⟩) l.length l.length, .int .i64 0])) (w2.alloc (.cells (l.map (Value.int .u8)).toArray 5)) := by
  subst hl
  have ha : putA k n = putL k n := by simp [putA, hf]
  have he : putE k n = 0 := by simp [putE, hf]
  refine ⟨_, _, by rw [ha, he], ?_, hb.alloc hb.size _⟩
  rw [ha]
  have h := Byt.new w2 5 (putL k n) (putL_range k n) (by rw [putL_len]; have := k_bounds k; simp only [maxLen]; omega)
  exact h.more (by simp)

theorem put_none {k n : Int} {W w' : World} (hf : fitB k n = false) (hb : Below W.heap.size W w') : PutPost k n W (.returned (.tuple #[.slice none 0 0, .int .i64 2])) w' := by
  have ha : putA k n = [] := by simp [putA, hf]
  have he : putE k n = 2 := by simp [putE, hf]
  exact ⟨none, 0, by rw [ha, he]; rfl, by rw [ha]; exact Byt.nil_ _ _, hb⟩

end Go.Proofs.Ytllaajkpobpeiaa