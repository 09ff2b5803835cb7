/- What FrameFlips asks of a frame and its flipped one. -/
import Derived.Test.YtabakfhknkhdkaaFrameU
namespace Go.Proofs.Ytabakfhknkhdkaa.frameFlips
open Go.RowKit Go.Proofs.Ytabakfhknkhdkaa

theorem flp_nil (d : Nat → Int) : flp [] d = d := by funext j; simp [flp]
theorem flp_bL (k : Nat) (d : Nat → Int) : flp (bL k d) d = flD k d := by
  funext j
  unfold flp flD
  rw [bL_len]
  by_cases h : j < k
  · rw [if_pos h, if_pos h, show flipL (bL k d) = (bL k d).map (fun x => 255 - x) from rfl, getD_map (f := fun x => 255 - x) (by rw [bL_len]; exact h), bL_get k d j h]
  · rw [if_neg h, if_neg h]
theorem flD_flD (k : Nat) (d : Nat → Int) : flD k (flD k d) = d := by
  funext j
  unfold flD
  by_cases h : j < k
  · rw [if_pos h, if_pos h]; omega
  · rw [if_neg h, if_neg h]
theorem flD_chk {i : Int} {k : Nat} {d : Nat → Int} (h : chk i false k d = 0) : chk i false k (flD k d) = 0 := by
  obtain ⟨h1, h2⟩ := chk_id h
  obtain ⟨h3, h4⟩ := chk_len h
  have hc := chk_cut h
  unfold chk
  rw [if_neg (by omega), if_neg (by omega), if_pos]
  refine (eqD_iff _ _).2 fun j hj => ?_
  have hj2 := hc j hj
  unfold cut flD kOf at *
  simp only [Bool.false_eq_true, if_false] at hj2 ⊢
  by_cases hk : j < k
  · rw [if_pos hk, if_pos (by omega)]
  · rw [if_neg hk, if_neg (by omega)]
    rw [if_neg (by omega)] at hj2
    exact hj2
theorem facts (i n : Int) (r : Bool) (d : Nat → Int) (hd : ∀ j, j < 8 → 0 ≤ d j ∧ d j ≤ 255) : ∃ (e : Nat → Int) (x : Int) (lb lc : List Int),
    (∀ w : World, Calls Try.prog 18 #[.agg #[.int .i64 i, .bool r, .int .i64 n, .int .u8 (d 0), .int .u8 (d 1), .int .u8 (d 2), .int .u8 (d 3), .int .u8 (d 4), .int .u8 (d 5), .int .u8 (d 6), .int .u8 (d 7)]] w fun q w' => q = .returned (.agg #[.int .i64 i, .bool r, .int .i64 n, .int .u8 (e 0), .int .u8 (e 1), .int .u8 (e 2), .int .u8 (e 3), .int .u8 (e 4), .int .u8 (e 5), .int .u8 (e 6), .int .u8 (e 7)]) ∧ Below w.heap.size w w') ∧
    (∀ w : World, Calls Try.prog 19 #[.agg #[.int .i64 i, .bool r, .int .i64 n, .int .u8 (d 0), .int .u8 (d 1), .int .u8 (d 2), .int .u8 (d 3), .int .u8 (d 4), .int .u8 (d 5), .int .u8 (d 6), .int .u8 (d 7)]] w fun q w' => q = .returned (.agg #[.int .i64 i, .bool r, .int .i64 n, .int .u8 (e 0), .int .u8 (e 1), .int .u8 (e 2), .int .u8 (e 3), .int .u8 (e 4), .int .u8 (e 5), .int .u8 (e 6), .int .u8 (e 7)]) ∧ Below w.heap.size w w') ∧
    (∀ w : World, Calls Try.prog 18 #[.agg #[.int .i64 i, .bool r, .int .i64 n, .int .u8 (e 0), .int .u8 (e 1), .int .u8 (e 2), .int .u8 (e 3), .int .u8 (e 4), .int .u8 (e 5), .int .u8 (e 6), .int .u8 (e 7)]] w fun q w' => q = .returned (.agg #[.int .i64 i, .bool r, .int .i64 n, .int .u8 (d 0), .int .u8 (d 1), .int .u8 (d 2), .int .u8 (d 3), .int .u8 (d 4), .int .u8 (d 5), .int .u8 (d 6), .int .u8 (d 7)]) ∧ Below w.heap.size w w') ∧
    (∀ w : World, Calls Try.prog 16 #[.agg #[.int .i64 i, .bool r, .int .i64 n, .int .u8 (d 0), .int .u8 (d 1), .int .u8 (d 2), .int .u8 (d 3), .int .u8 (d 4), .int .u8 (d 5), .int .u8 (d 6), .int .u8 (d 7)]] w fun q w' => q = .returned (.int .i64 x) ∧ Below w.heap.size w w') ∧
    (∀ w : World, Calls Try.prog 16 #[.agg #[.int .i64 i, .bool r, .int .i64 n, .int .u8 (e 0), .int .u8 (e 1), .int .u8 (e 2), .int .u8 (e 3), .int .u8 (e 4), .int .u8 (e 5), .int .u8 (e 6), .int .u8 (e 7)]] w fun q w' => q = .returned (.int .i64 x) ∧ Below w.heap.size w w') ∧
    (∀ w : World, Calls Try.prog 12 #[.agg #[.int .i64 i, .bool r, .int .i64 n, .int .u8 (d 0), .int .u8 (d 1), .int .u8 (d 2), .int .u8 (d 3), .int .u8 (d 4), .int .u8 (d 5), .int .u8 (d 6), .int .u8 (d 7)]] w fun q w' => ∃ A c, q = .returned (.slice A lb.length c) ∧ Byt w' w'.heap.size A lb.length c lb ∧ Below w.heap.size w w') ∧
    (∀ w : World, Calls Try.prog 12 #[.agg #[.int .i64 i, .bool r, .int .i64 n, .int .u8 (e 0), .int .u8 (e 1), .int .u8 (e 2), .int .u8 (e 3), .int .u8 (e 4), .int .u8 (e 5), .int .u8 (e 6), .int .u8 (e 7)]] w fun q w' => ∃ A c, q = .returned (.slice A lc.length c) ∧ Byt w' w'.heap.size A lc.length c lc ∧ Below w.heap.size w w') ∧
    lc.length = lb.length ∧ lb.length ≤ 8 ∧ ∀ j, j < lb.length → lc.getD j 0 = 255 - lb.getD j 0 ∧ 0 ≤ lb.getD j 0 ∧ lb.getD j 0 ≤ 255 := by
  by_cases hok : r = false ∧ chk i r n d = 0
  · obtain ⟨rfl, hc⟩ := hok
    obtain ⟨h3, h4⟩ := chk_len hc
    obtain ⟨k, rfl⟩ := Int.eq_ofNat_of_zero_le h3
    have hc2 := flD_chk hc
    have he : ∀ j, j < 8 → 0 ≤ flD k d j ∧ flD k d j ≤ 255 := fun j hj => by
      have := hd j hj
      unfold flD
      split <;> omega
    refine ⟨flD k d, rk i false k d, bL k d, bL k (flD k d), fun w => ?_, fun w => dflip_ok i k d w hc hd, fun w => ?_, fun w => rank_any i k false d w, fun w => ?_, fun w => ?_, fun w => ?_, by rw [bL_len, bL_len], by rw [bL_len]; omega, fun j hj => ?_⟩
    · have := fflip_any i k false d w hd
      rw [bOf_some hc, flp_bL] at this
      exact this
    · have := fflip_any i k false (flD k d) w he
      rw [bOf_some hc2, flp_bL, flD_flD] at this
      exact this
    · have := rank_any i k false (flD k d) w
      rw [show rk i false k (flD k d) = rk i false k d by unfold rk; rw [if_pos hc, if_pos hc2]] at this
      exact this
    · have := bytes_any i k false d w hd
      rw [bOf_some hc] at this
      exact this
    · have := bytes_any i k false (flD k d) w he
      rw [bOf_some hc2] at this
      exact this
    · rw [bL_len] at hj
      rw [bL_get _ _ _ hj, bL_get _ _ _ hj]
      refine ⟨?_, hd j (by omega)⟩
      unfold flD
      rw [if_pos hj]
  · have hbo := bOf_nil hok
    have hfl : ∀ w : World, Calls Try.prog 18 #[.agg #[.int .i64 i, .bool r, .int .i64 n, .int .u8 (d 0), .int .u8 (d 1), .int .u8 (d 2), .int .u8 (d 3), .int .u8 (d 4), .int .u8 (d 5), .int .u8 (d 6), .int .u8 (d 7)]] w fun q w' => q = .returned (.agg #[.int .i64 i, .bool r, .int .i64 n, .int .u8 (d 0), .int .u8 (d 1), .int .u8 (d 2), .int .u8 (d 3), .int .u8 (d 4), .int .u8 (d 5), .int .u8 (d 6), .int .u8 (d 7)]) ∧ Below w.heap.size w w' := fun w => by
      have := fflip_any i n r d w hd
      rw [hbo, flp_nil] at this
      exact this
    have hby : ∀ w : World, Calls Try.prog 12 #[.agg #[.int .i64 i, .bool r, .int .i64 n, .int .u8 (d 0), .int .u8 (d 1), .int .u8 (d 2), .int .u8 (d 3), .int .u8 (d 4), .int .u8 (d 5), .int .u8 (d 6), .int .u8 (d 7)]] w fun q w' => ∃ A c, q = .returned (.slice A ([] : List Int).length c) ∧ Byt w' w'.heap.size A ([] : List Int).length c ([] : List Int) ∧ Below w.heap.size w w' := fun w => by
      have := bytes_any i n r d w hd
      rw [hbo] at this
      exact this
    refine ⟨d, rk i r n d, [], [], hfl, fun w => ?_, hfl, fun w => rank_any i n r d w, fun w => rank_any i n r d w, hby, hby, rfl, by simp, fun j hj => absurd hj (by simp)⟩
    cases r with
    | true => exact dflip_rtr i n d w
    | false => exact dflip_no i n d w fun h => hok ⟨rfl, h⟩
end Go.Proofs.Ytabakfhknkhdkaa.frameFlips
