/- ValueMays, walked. -/
import Derived.Test.YthfcaidhchhifaaVf
import Derived.Deep.RegionHeld
namespace Go.Proofs.Ythfcaidhchhifaa
open Go.RowKit
set_option linter.unusedSimpArgs false
set_option linter.unusedVariables false

theorem Bx4.cells {w w1 : World} {k a lo hi : Int} (h : Bx4 w k a lo hi w1) : w1.cell? ⟨w.heap.size, 0, none⟩ = some (.int .i64 k) ∧ w1.cell? ⟨w.heap.size, 1, none⟩ = some (.int .i64 a) ∧ w1.cell? ⟨w.heap.size, 2, none⟩ = some (.int .i64 lo) ∧ w1.cell? ⟨w.heap.size, 3, none⟩ = some (.int .i64 hi) := ⟨h.c0, h.c1, h.c2, h.c3⟩
theorem get_put {k n : Int} (h : fitB k n = true) : getN k (putA k n) = n ∧ getE k (putA k n) = 0 := by
  have ha : putA k n = putL k n := by simp [putA, h]
  have hl : kSize k = (putL k n).length := by rw [putL_len]; have := k_bounds k; omega
  have hf := h
  simp only [fitB, decide_eq_true_eq] at hf
  have hv : valL k (putL k n) = n := by
    unfold valL
    rw [← Int.toNat_natCast (putL k n).length, ← hl]
    rcases kind_cases k with rfl | rfl | rfl | rfl | rfl | rfl | rfl | hk
    case inr.inr.inr.inr.inr.inr.inr => have := (k_other hk).1; omega
    all_goals
      first | rw [putL1 rfl] | rw [putL2 rfl] | rw [putL4 rfl]
      simp only [numL, kSize, kLow, kHigh] at hf ⊢
      simp at hf ⊢
      split <;> omega
  rw [ha]
  unfold getN getE
  rw [hv, if_pos ⟨hf.1, hl, h⟩, if_neg (by omega), if_neg (by omega), if_pos h]
  exact ⟨rfl, rfl⟩
theorem fits_put {k a lo hi n : Int} (h : mayB k a lo hi = true) (h8 : ¬ k = 8) (h1 : lo ≤ n) (h2 : n ≤ hi) : fitsA k a lo hi (putA k n) = 0 ∧ getN k (putA k n) = n ∧ getE k (putA k n) = 0 := by
  have hf := byt_fit h h8 h1 h2
  obtain ⟨e1, e2⟩ := get_put hf
  have hl : ((putA k n).length : Int) = kSize k := by
    have : putA k n = putL k n := by simp [putA, hf]
    rw [this, putL_len]; have := k_bounds k; omega
  have hL : lenA ((putA k n).length : Int) (kSize k) (kSize k) = 0 := by unfold lenA; rw [hl, if_neg (by omega), if_neg (by omega)]
  unfold fitsA
  rw [if_neg (by simp [h]), if_neg h8, hL, if_neg (by simp), e1, e2, if_neg (by simp), if_neg (by omega), if_neg (by omega)]
  exact ⟨rfl, rfl, rfl⟩
theorem fir_fits (k a lo hi : Int) : (fitsA k a lo hi (firL k a lo hi) == 0) = mayB k a lo hi := by
  cases h : mayB k a lo hi with
  | false =>
    have e : fitsA k a lo hi (firL k a lo hi) = 134217728 := if_pos h
    rw [e]; rfl
  | true =>
    by_cases h8 : k = 8
    · subst h8
      have h' := of_decide_eq_true h
      obtain ⟨m, rfl⟩ := Int.eq_ofNat_of_zero_le (show 0 ≤ lo by omega)
      obtain ⟨e, _⟩ := fir_text h rfl rfl
      rw [e]
      have e2 : fitsA 8 a m hi (List.replicate m 0) = lenA m m hi := by unfold fitsA; rw [if_neg (by simp [h]), if_pos rfl, List.length_replicate]
      rw [e2]
      unfold lenA
      rw [if_neg (by omega), if_neg (by omega)]
      rfl
    · obtain ⟨_, e, h1, h2⟩ := fir_num h h8
      rw [← e, (fits_put h h8 h1 h2).1]
      rfl

set_option maxHeartbeats 2000000 in
theorem mays_walk (w : World) (k a lo hi : Int) : Calls Try.prog 3 #[.agg #[.int .i64 k, .int .i64 a, .int .i64 lo, .int .i64 hi]] w fun e w' => e = .returned (.bool true) ∧ Below w.heap.size w w' := by
  have hx0 := Bx4.start w k a lo hi 25
  have hm1 := fun w => may_any k a lo hi w
  have hm2 := fun w => rmay_any k a lo hi w
  have hf1 := fun w => vfirst_any k a lo hi w
  have hf2 := fun w => rfirst_any k a lo hi w
  have hft := fun (w : World) (A : Option Addr) (c : Nat) (h : Byt w w.heap.size A (firL k a lo hi).length c (firL k a lo hi)) => vfits_any k a lo hi w A _ c _ h
  have hF := fir_fits k a lo hi
  unfold FirPost at hf1 hf2
  generalize fitsA k a lo hi (firL k a lo hi) = F at hft hF
  generalize firL k a lo hi = L at hf1 hf2 hft
  generalize mayB k a lo hi = b at hm1 hm2 hF
  have hlN : ∃ N, L.length = N := ⟨_, rfl⟩
  obtain ⟨N, hN⟩ := hlN
  rw [hN] at hf1 hf2 hft
  have HM1 := Lib.hid hm1
  have HM2 := Lib.hid hm2
  have HF1 := Lib.hid hf1
  have HF2 := Lib.hid hf2
  have HFT := Lib.hid hft
  have HF := Lib.hid hF
  have HX0 := Lib.hid hx0
  have HN := Lib.hid hN
  clear hm1 hm2 hf1 hf2 hft hF hN
  go_enter Try.func3, Try.ntmps3
  go_wp2_with fail
  generalize (w.alloc (Obj.cells #[Value.int IntKind.i64 k, Value.int IntKind.i64 a, Value.int IntKind.i64 lo, Value.int IntKind.i64 hi] 25)) = w0 at hx0 HX0
  have k0 := hx0.cells
  clear hx0
  go_region_held (fun w' => w'.cell? ⟨w.heap.size, 0, none⟩ = some (.int .i64 k) ∧ w'.cell? ⟨w.heap.size, 1, none⟩ = some (.int .i64 a) ∧ w'.cell? ⟨w.heap.size, 2, none⟩ = some (.int .i64 lo) ∧ w'.cell? ⟨w.heap.size, 3, none⟩ = some (.int .i64 hi))
    (first | exact k0 | exact k1 | exact k2 | exact k3 | exact k4)
    (first
      | (go_at_call 7
         (with_reducible refine (HM1.out w0.drew).mono ?_)
         rintro e w1 ⟨rfl, hb1⟩
         have HX1 := Lib.hid ((HX0.out.drew 1).step hb1)
         have k1 := HX1.out.cells)
      | (go_at_call 8
         (with_reducible refine (HM2.out w1).mono ?_)
         rintro e w2 ⟨rfl, hb2⟩
         have HX2 := Lib.hid (HX1.out.step hb2)
         have k2 := HX2.out.cells)
      | (go_at_call 9
         (with_reducible refine (HF1.out w2).mono ?_)
         rintro e w3 ⟨A3, c3', rfl, hB3, hb3⟩
         have HX3 := Lib.hid (HX2.out.step hb3)
         have k3 := HX3.out.cells
         have st3 := run_str 27 5 Try.underlying27 Try.underlying5 hB3 9 Try.underlying9)
      | (go_at_call 10
         (with_reducible refine (HF2.out w3).mono ?_)
         rintro e w4 ⟨A4, c4', rfl, hB4, hb4⟩
         have HX4 := Lib.hid (HX3.out.step hb4)
         have k4 := HX4.out.cells
         have st4 := run_str 27 5 Try.underlying27 Try.underlying5 hB4 9 Try.underlying9
         have st5 := run_str 27 5 Try.underlying27 Try.underlying5 (hB3.step hb4) 9 Try.underlying9))
  all_goals
    have HX := HX4
    have k4' := k4
    clear k0 k1 k2 k3 k4 st3 st4 st5 hB3 hB4 hb1 hb2 hb3 hb4
    go_wp2_with fail
    go_region_held (fun w' => w'.cell? ⟨w.heap.size, 0, none⟩ = some (.int .i64 k) ∧ w'.cell? ⟨w.heap.size, 1, none⟩ = some (.int .i64 a) ∧ w'.cell? ⟨w.heap.size, 2, none⟩ = some (.int .i64 lo) ∧ w'.cell? ⟨w.heap.size, 3, none⟩ = some (.int .i64 hi))
      (first | exact k4' | exact k5 | exact k6 | exact k7 | exact k8)
      (first
        | (go_at_call 11
           (with_reducible refine (live13_any w4.drew).mono ?_)
           rintro e w5 ⟨rfl, hb5⟩
           have HX5 := Lib.hid ((HX.out.drew 1).step hb5)
           have k5 := HX5.out.cells)
        | (go_at_call 9
           (with_reducible refine (HF1.out w5).mono ?_)
           rintro e w6 ⟨A6, c6', rfl, hB6, hb6⟩
           have HX6 := Lib.hid (HX5.out.step hb6)
           have k6 := HX6.out.cells)
        | (go_at_call 12
           (with_reducible refine (HFT.out w6 A6 c6' hB6).mono ?_)
           rintro e w7 ⟨rfl, hb7⟩
           have HX7 := Lib.hid (HX6.out.step hb7)
           have k7 := HX7.out.cells)
        | (go_at_call 8
           (with_reducible refine (HM2.out w7).mono ?_)
           rintro e w8 ⟨rfl, hb8⟩
           have HX8 := Lib.hid (HX7.out.step hb8)
           have k8 := HX8.out.cells
           have hF8 := HF.out))
  all_goals
    go_wp2_with fail
    go_ret
    exact ⟨rfl, HX8.out.blw⟩
end Go.Proofs.Ythfcaidhchhifaa
