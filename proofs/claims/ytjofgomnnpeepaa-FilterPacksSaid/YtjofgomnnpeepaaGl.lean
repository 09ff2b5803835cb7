/- The document's own answers: bit, One, Pass, Ids. -/
import Derived.Test.YtjofgomnnpeepaaGj
import Derived.Deep.RegionHeld3
import Derived.Deep.DrawnRows
namespace Go.Proofs.Ytjofgomnnpeepaa
open Go.RowKit Go.Sort

def bitN (n : Int) (k : Nat) : Int := if (low n).testBit k then 1 else 0
theorem bit_shr (n : Int) : ∀ k : Nat, k < 11 → ((low (n / 2 ^ k) % 2 : Nat) : Int) = bitN n k := by
  intro k hk
  have key : low (n / 2 ^ k) % 2 = low n / 2 ^ k % 2 := by
    unfold low
    match k, hk with
    | 0, _ => simp
    | 1, _ => simp only [Nat.reducePow, Int.reducePow]; omega
    | 2, _ => simp only [Nat.reducePow, Int.reducePow]; omega
    | 3, _ => simp only [Nat.reducePow, Int.reducePow]; omega
    | 4, _ => simp only [Nat.reducePow, Int.reducePow]; omega
    | 5, _ => simp only [Nat.reducePow, Int.reducePow]; omega
    | 6, _ => simp only [Nat.reducePow, Int.reducePow]; omega
    | 7, _ => simp only [Nat.reducePow, Int.reducePow]; omega
    | 8, _ => simp only [Nat.reducePow, Int.reducePow]; omega
    | 9, _ => simp only [Nat.reducePow, Int.reducePow]; omega
    | 10, _ => simp only [Nat.reducePow, Int.reducePow]; omega
  rw [key]
  unfold bitN
  rw [Nat.testBit_eq_decide_div_mod_eq]
  by_cases h : low n / 2 ^ k % 2 = 1
  · simp [h]
  · have : low n / 2 ^ k % 2 = 0 := by omega
    simp [this]
theorem i64_and_one (n : Int) : bits .and .i64 n 1 = ((low n % 2 : Nat) : Int) := by
  have h := i64_and_low n 1 (by omega)
  rw [Nat.and_one_is_mod] at h
  exact h
theorem bit_any (n : Int) (k : Nat) (hk : k < 11) (w : World) : Calls Try.prog 31 #[.int .i64 n, .int .i64 k] w fun e w' => e = .returned (.int .i64 (bitN n k)) ∧ w = w' := by
  go_enter Try.func31, Try.ntmps31
  go_wp2_with fail
  go_ret
  exact ⟨by rw [← bit_shr n k hk, ← i64_and_one]; rfl, rfl⟩
theorem bitN_one (n : Int) (k : Nat) : (bitN n k == 1) = (low n).testBit k := by
  unfold bitN
  cases (low n).testBit k <;> rfl
theorem bitN_ne (n m : Int) (k : Nat) : (bitN n k != bitN m k) = ((low n).testBit k != (low m).testBit k) := by
  unfold bitN
  cases (low n).testBit k <;> cases (low m).testBit k <;> rfl
/-- Do code and identifier agree in the first k bits of the mask? -/
def agree (c m : Nat) (id : Nat) (k : Nat) : Prop := ∀ j, j < k → m.testBit j = true → c.testBit j = id.testBit j
theorem agree_all {fc fm id : Int} (h : agree (low fc) (low fm) (low id) 11) : One (low fc) (low fm) id = (decide (0 ≤ id) && decide (id < 2048)) := by
  have : low id &&& low fm = low fc &&& low fm := (under_iff _ _ _).2 fun j hj => by
    by_cases h11 : j < 11
    · exact (h j h11 hj).symm
    · have := Nat.testBit_lt_two_pow (x := low fm) (i := j) (Nat.lt_of_lt_of_le (low_lt fm) (Nat.pow_le_pow_right (n := 2) (i := 11) (by omega) (by omega)))
      rw [this] at hj; cases hj
  unfold One
  rw [this]
  simp
theorem agree_not {fc fm id : Int} {k : Nat} (h1 : (low fm).testBit k = true) (h2 : ((low fc).testBit k != (low id).testBit k) = true) : One (low fc) (low fm) id = false := by
  have : ¬ low id &&& low fm = low fc &&& low fm := fun e => by
    have := (under_iff _ _ _).1 e k h1
    rw [this] at h2
    simp at h2
  unfold One
  simp [this]

set_option maxHeartbeats 1000000 in
theorem one_any (fc fm id : Int) (w : World) : Calls Try.prog 21 #[.agg #[.int .i64 fc, .int .i64 fm], .int .i64 id] w fun e w' => e = .returned (.bool (One (low fc) (low fm) id)) ∧ w' = w.alloc (.cells #[.int .i64 fc, .int .i64 fm] 41) := by
  have k0 : (w.alloc (.cells #[.int .i64 fc, .int .i64 fm] 41)).cell? ⟨w.heap.size, 0, none⟩ = some (.int .i64 fc) := by rw [cell_of_row _ _ _ _ _ _ (heap_alloc_new w _)]; rfl
  have k1 : (w.alloc (.cells #[.int .i64 fc, .int .i64 fm] 41)).cell? ⟨w.heap.size, 1, none⟩ = some (.int .i64 fm) := by rw [cell_of_row _ _ _ _ _ _ (heap_alloc_new w _)]; rfl
  go_enter Try.func21, Try.ntmps21
  go_wp2_with fail
  generalize hw0 : w.alloc (.cells #[.int .i64 fc, .int .i64 fm] 41) = w0 at k0 k1 ⊢
  have HW := Lib.hid hw0
  clear hw0
  go_loop [5] (fun i => ∃ k : Nat, k ≤ 11 ∧ i = .int .i64 k ∧ Hid (agree (low fc) (low fm) (low id) k)) (fun i => 11 - (intOf i).toNat)
  case atStart => exact ⟨0, by omega, rfl, Lib.hid (fun _ h => absurd h (Nat.not_lt_zero _))⟩
  case round =>
    obtain ⟨k, hk, rfl, hag⟩ := hrel
    by_cases hlt : k < 11
    · have hno := @agree_not fc fm id k
      rw [← bitN_one, ← bitN_ne] at hno
      have HNO := Lib.hid hno
      have hyes : ((bitN fm k == 1) = true → (bitN fc k != bitN id k) = false) → agree (low fc) (low fm) (low id) (k + 1) := fun h j hj hm => by
        by_cases e : j = k
        · subst e
          have := h (by rw [bitN_one]; exact hm)
          rw [bitN_ne] at this
          simpa using this
        · exact hag.out j (by omega) hm
      have HY := Lib.hid hyes
      have hb1 := fun w => bit_any fm k hlt w
      have hb2 := fun w => bit_any fc k hlt w
      have hb3 := fun w => bit_any id k hlt w
      generalize bitN fm k = x at HNO HY hb1
      generalize bitN fc k = y at HNO HY hb2
      generalize bitN id k = z at HNO HY hb3
      have HB1 := Lib.hid hb1
      have HB2 := Lib.hid hb2
      have HB3 := Lib.hid hb3
      clear hno hyes hb1 hb2 hb3 hag
      cases hx : x == 1 with
      | false =>
        have HX := Lib.hid hx
        go_wp2_with fail
        refine (HB1.out _).mono ?_
        rintro e w2 ⟨rfl, rfl⟩
        go_wp2_with fail
        go_round
        case rel => exact ⟨k + 1, by omega, by go_num, Lib.hid (HY.out fun h => by rw [HX.out] at h; cases h)⟩
        case measure => simp [intOf]; omega
      | true =>
        have HX := Lib.hid hx
        go_wp2_with fail
        refine (HB1.out _).mono ?_
        rintro e w2 ⟨rfl, rfl⟩
        go_wp2_with fail
        refine (HB2.out _).mono ?_
        rintro e w2 ⟨rfl, rfl⟩
        go_wp2_with fail
        refine (HB3.out _).mono ?_
        rintro e w2 ⟨rfl, rfl⟩
        cases hyz : y != z with
        | true =>
          have HYZ := Lib.hid hyz
          go_wp2_with fail
          exact bodyPost_ret (results_tmp rfl _ _ _) rfl ⟨by rw [HNO.out HX.out HYZ.out]; rfl, HW.out.symm⟩
        | false =>
          have HYZ := Lib.hid hyz
          go_wp2_with fail
          go_round
          case rel => exact ⟨k + 1, by omega, by go_num, Lib.hid (HY.out fun _ => HYZ.out)⟩
          case measure => simp [intOf]; omega
    · obtain rfl : k = 11 := by omega
      have hal := agree_all hag.out
      have HAL := Lib.hid hal
      clear hal
      by_cases hid : 0 ≤ id
      · have h1 : decide (0 ≤ id) = true := by simp [hid]
        have H1 := Lib.hid h1
        clear h1
        go_wp2_with fail
        exact bodyPost_ret (results_tmp rfl _ _ _) rfl ⟨by rw [HAL.out, H1.out, Bool.true_and]; rfl, HW.out.symm⟩
      · have h1 : decide (0 ≤ id) = false := by simp; omega
        have H1 := Lib.hid h1
        clear h1
        go_wp2_with fail
        exact bodyPost_ret (results_tmp rfl _ _ _) rfl ⟨by rw [HAL.out, H1.out, Bool.false_and]; rfl, HW.out.symm⟩
end Go.Proofs.Ytjofgomnnpeepaa
