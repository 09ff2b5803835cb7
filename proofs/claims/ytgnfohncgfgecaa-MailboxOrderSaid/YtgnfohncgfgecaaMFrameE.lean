/- Ranks; what checked and Ask answer. -/
import Derived.Test.YtgnfohncgfgecaaMFrameD
namespace Go.Proofs.Ytgnfohncgfgecaa
open Go.RowKit
theorem chk_id {id n : Int} {r : Bool} {d : Nat → Int} (h : chk id r n d = 0) : 0 ≤ id ∧ id ≤ 2047 := by
  unfold chk at h
  by_cases h1 : id < 0 ∨ 2047 < id
  · rw [if_pos h1] at h; omega
  · omega
theorem chk_len {id n : Int} {r : Bool} {d : Nat → Int} (h : chk id r n d = 0) : 0 ≤ n ∧ n ≤ 8 := by
  unfold chk at h
  by_cases h1 : id < 0 ∨ 2047 < id
  · rw [if_pos h1] at h; omega
  · rw [if_neg h1] at h
    by_cases h2 : n < 0 ∨ 8 < n
    · rw [if_pos h2] at h; omega
    · omega
theorem chk_cut {id n : Int} {r : Bool} {d : Nat → Int} (h : chk id r n d = 0) : ∀ j, j < 8 → d j = cut d (kOf r n) j := by
  have h1 := chk_id h
  have h2 := chk_len h
  unfold chk at h
  rw [if_neg (by omega), if_neg (by omega)] at h
  by_cases h3 : eqD d (cut d (kOf r n)) = true
  · exact (eqD_iff _ _).1 h3
  · rw [if_neg h3] at h; omega
/-- A frame's rank. -/
def rk (id : Int) (r : Bool) (n : Int) (d : Nat → Int) : Int := if chk id r n d = 0 then (if r = true then 2 * id + 1 else 2 * id) else -1
theorem rank_any (id n : Int) (r : Bool) (d : Nat → Int) (w : World) :
    Calls Try.prog 44 #[.agg #[.int .i64 id, .bool r, .int .i64 n, .int .u8 (d 0), .int .u8 (d 1), .int .u8 (d 2), .int .u8 (d 3), .int .u8 (d 4), .int .u8 (d 5), .int .u8 (d 6), .int .u8 (d 7)]] w fun e w' => e = .returned (.int .i64 (rk id r n d)) ∧ Below w.heap.size w w' := by
  have hf := frame_new w id n r d
  have hb : Below w.heap.size w (w.alloc (.cells #[.int .i64 id, .bool r, .int .i64 n, .int .u8 (d 0), .int .u8 (d 1), .int .u8 (d 2), .int .u8 (d 3), .int .u8 (d 4), .int .u8 (d 5), .int .u8 (d 6), .int .u8 (d 7)] 30)) := (Below.refl _ _).alloc (Nat.le_refl _) _
  have hs : w.heap.size < (w.alloc (.cells #[.int .i64 id, .bool r, .int .i64 n, .int .u8 (d 0), .int .u8 (d 1), .int .u8 (d 2), .int .u8 (d 3), .int .u8 (d 4), .int .u8 (d 5), .int .u8 (d 6), .int .u8 (d 7)] 30)).heap.size := by simp
  have hca := fun w => check_any id n r d w
  by_cases hc : chk id r n d = 0
  · have e : rk id r n d = if r = true then 2 * id + 1 else 2 * id := if_pos hc
    obtain ⟨i0, i1⟩ := chk_id hc
    simp only [hc] at hca
    rw [e]
    have HB := Lib.hid hb
    have HF := Lib.hid hf
    have HS := Lib.hid hs
    have HCA := Lib.hid hca
    have z1 := IntWalk.i64_in (n := 2 * id) (by omega)
    have z2 := IntWalk.i64_in (n := 2 * id + 1) (by omega)
    have z3 := IntWalk.i64_in (n := id + id) (by omega)
    have z4 := IntWalk.i64_in (n := id + id + 1) (by omega)
    clear hb hf hs hca hc e
    cases r
    all_goals (go_enter Try.func44, Try.ntmps44; go_wp2_with (go_at_call 27; refine (HCA.out _).mono ?_; rintro e w1 ⟨rfl, hb1⟩; have hf1 := FrAt.below HF.out hb1 HS.out; have hbw := HB.out.trans (hb1.mono HB.out.size); obtain ⟨c0, c1, c2, c3, c4, c5, c6, c7, c8, c9, c10⟩ := hf1.cells; clear c3 c4 c5 c6 c7 c8 c9 c10 hf1 hb1))
    all_goals (refine bodyPost_ret (results_tmp rfl _ _ _) rfl ⟨?_, hbw⟩; show Ending.returned (.int .i64 _) = .returned (.int .i64 _); refine ret_int ?_; first | rfl | (simp; done) | (simp; omega) | omega)
  · have e : rk id r n d = -1 := if_neg hc
    rw [e]
    generalize chk id r n d = q at hca hc
    have HB := Lib.hid hb
    have HF := Lib.hid hf
    have HS := Lib.hid hs
    have HCA := Lib.hid hca
    clear hb hf hs hca e
    go_enter Try.func44, Try.ntmps44
    go_wp2_with (go_at_call 27; refine (HCA.out _).mono ?_; rintro e w1 ⟨rfl, hb1⟩; have hf1 := FrAt.below HF.out hb1 HS.out; have hbw := HB.out.trans (hb1.mono HB.out.size); obtain ⟨c0, c1, c2, c3, c4, c5, c6, c7, c8, c9, c10⟩ := hf1.cells; clear c3 c4 c5 c6 c7 c8 c9 c10 hf1 hb1)
    all_goals exact bodyPost_ret (results_tmp rfl _ _ _) rfl ⟨rfl, hbw⟩
theorem drank_any (id n : Int) (r : Bool) (d : Nat → Int) (w : World) :
    Calls Try.prog 19 #[.agg #[.int .i64 id, .bool r, .int .i64 n, .int .u8 (d 0), .int .u8 (d 1), .int .u8 (d 2), .int .u8 (d 3), .int .u8 (d 4), .int .u8 (d 5), .int .u8 (d 6), .int .u8 (d 7)]] w fun e w' => e = .returned (.int .i64 (rk id r n d)) ∧ Below w.heap.size w w' := by
  have hf := frame_new w id n r d
  have hb : Below w.heap.size w (w.alloc (.cells #[.int .i64 id, .bool r, .int .i64 n, .int .u8 (d 0), .int .u8 (d 1), .int .u8 (d 2), .int .u8 (d 3), .int .u8 (d 4), .int .u8 (d 5), .int .u8 (d 6), .int .u8 (d 7)] 30)) := (Below.refl _ _).alloc (Nat.le_refl _) _
  have hs : w.heap.size < (w.alloc (.cells #[.int .i64 id, .bool r, .int .i64 n, .int .u8 (d 0), .int .u8 (d 1), .int .u8 (d 2), .int .u8 (d 3), .int .u8 (d 4), .int .u8 (d 5), .int .u8 (d 6), .int .u8 (d 7)] 30)).heap.size := by simp
  have hca := fun w => dcheck_any id n r d w
  by_cases hc : chk id r n d = 0
  · have e : rk id r n d = if r = true then 2 * id + 1 else 2 * id := if_pos hc
    obtain ⟨i0, i1⟩ := chk_id hc
    simp only [hc] at hca
    rw [e]
    have HB := Lib.hid hb
    have HF := Lib.hid hf
    have HS := Lib.hid hs
    have HCA := Lib.hid hca
    have z1 := IntWalk.i64_in (n := 2 * id) (by omega)
    have z2 := IntWalk.i64_in (n := 2 * id + 1) (by omega)
    have z3 := IntWalk.i64_in (n := id + id) (by omega)
    have z4 := IntWalk.i64_in (n := id + id + 1) (by omega)
    clear hb hf hs hca hc e
    cases r
    all_goals (go_enter Try.func19, Try.ntmps19; go_wp2_with (go_at_call 22; refine (HCA.out _).mono ?_; rintro e w1 ⟨rfl, hb1⟩; have hf1 := FrAt.below HF.out hb1 HS.out; have hbw := HB.out.trans (hb1.mono HB.out.size); obtain ⟨c0, c1, c2, c3, c4, c5, c6, c7, c8, c9, c10⟩ := hf1.cells; clear c3 c4 c5 c6 c7 c8 c9 c10 hf1 hb1))
    all_goals (refine bodyPost_ret (results_tmp rfl _ _ _) rfl ⟨?_, hbw⟩; show Ending.returned (.int .i64 _) = .returned (.int .i64 _); refine ret_int ?_; first | rfl | (simp; done) | (simp; omega) | omega)
  · have e : rk id r n d = -1 := if_neg hc
    rw [e]
    generalize chk id r n d = q at hca hc
    have HB := Lib.hid hb
    have HF := Lib.hid hf
    have HS := Lib.hid hs
    have HCA := Lib.hid hca
    clear hb hf hs hca e
    go_enter Try.func19, Try.ntmps19
    go_wp2_with (go_at_call 22; refine (HCA.out _).mono ?_; rintro e w1 ⟨rfl, hb1⟩; have hf1 := FrAt.below HF.out hb1 HS.out; have hbw := HB.out.trans (hb1.mono HB.out.size); obtain ⟨c0, c1, c2, c3, c4, c5, c6, c7, c8, c9, c10⟩ := hf1.cells; clear c3 c4 c5 c6 c7 c8 c9 c10 hf1 hb1)
    all_goals exact bodyPost_ret (results_tmp rfl _ _ _) rfl ⟨rfl, hbw⟩
end Go.Proofs.Ytgnfohncgfgecaa