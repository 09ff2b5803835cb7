/- Ranks; what checked and Ask answer. -/
import Derived.Test.YtllaajkpobpeiaaOJFrameD
namespace Go.Proofs.Ytllaajkpobpeiaa
open Go.RowKit
theorem chk_id {id n : Int} {r : Bool} {d : Nat → Int} (h : chk id r n d = 0) : 0 ≤ id ∧ id ≤ 2047 := by
  unfold chk at h
  by_cases h1 : id < 0 ∨ 2047 < id
  · rw [if_pos h1] at h; omega
  · omega
theorem chk_len {id n : Int} {r : Bool} {d : Nat → Int} (h : chk id r n d = 0) : 0 ≤ n ∧ n ≤ 8 := by
  unfold chk at h
  by_cases h1 : id < 0 ∨ 2047 < id
  · rw [if_pos h1] at h; omega
  · rw [if_neg h1] at h
    by_cases h2 : n < 0 ∨ 8 < n
    · rw [if_pos h2] at h; omega
    · omega
theorem chk_cut {id n : Int} {r : Bool} {d : Nat → Int} (h : chk id r n d = 0) : ∀ j, j < 8 → d j = cut d (kOf r n) j := by
  have h1 := chk_id h
  have h2 := chk_len h
  unfold chk at h
  rw [if_neg (by omega), if_neg (by omega)] at h
  by_cases h3 : eqD d (cut d (kOf r n)) = true
  · exact (eqD_iff _ _).1 h3
  · rw [if_neg h3] at h; omega
/-- A frame's rank. -/
def rk (id : Int) (r : Bool) (n : Int) (d : Nat → Int) : Int := if chk id r n d = 0 then (if r = true then 2 * id + 1 else 2 * id) else -1
end Go.Proofs.Ytllaajkpobpeiaa