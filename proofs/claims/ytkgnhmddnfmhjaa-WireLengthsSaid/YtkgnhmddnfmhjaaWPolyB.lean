/- What a divisor's own small calls answer: low, raised, May. -/
import Derived.Deep.RegionHeld3
import Derived.Test.YtkgnhmddnfmhjaaWPolyA
namespace Go.Proofs.Ytkgnhmddnfmhjaa
open Go.RowKit
/-- A divisor as a value. -/
def pv (W L : Nat) : Value := .agg #[.int .i64 W, .int .u32 L]

theorem pow32 {W : Nat} (hW : W ≤ 31) : (2 : Nat) ^ W ≤ 2147483648 := by
  have : (2 : Nat) ^ W ≤ 2 ^ 31 := Nat.pow_le_pow_right (by omega) hW
  simpa using this
theorem and_pow (W n : Nat) (hW : W ≤ 31) (hn : n < 4294967296) : bits .and .u32 (n : Int) (((2 ^ W : Nat) : Int) - 1) = ((n % 2 ^ W : Nat) : Int) := by
  have h1 := pow32 hW
  have h2 := Nat.two_pow_pos W
  rw [show ((2 ^ W : Nat) : Int) - 1 = ((2 ^ W - 1 : Nat) : Int) by omega, u32_and_nat _ _ hn (by omega), Nat.and_two_pow_sub_one_eq_mod]

theorem plow_any (W L n : Nat) (w : World) (hW : W ≤ 31) (hn : n < 4294967296) :
    Calls Try.prog 47 #[.agg #[.int .i64 W, .int .u32 L], .int .u32 n] w fun e w' => e = .returned (.int .u32 ((n % 2 ^ W : Nat) : Int)) ∧ Below w.heap.size w w' := by
  have hp := pow32 hW
  have hp0 := Nat.two_pow_pos W
  go_enter Try.func47, Try.ntmps47
  go_wp2_with fail
  go_ret
  refine ⟨ret_int ?_, (Below.refl _ _).alloc (Nat.le_refl _) _⟩
  have e : ((2 : Int) ^ W - 1) % 4294967296 = ((2 ^ W : Nat) : Int) - 1 := by
    have : ((2 : Int) ^ W) = ((2 ^ W : Nat) : Int) := by simp
    rw [this]; omega
  rw [e, and_pow W n hW hn]

theorem top_bit {W n : Nat} (hW : 1 ≤ W) (hn : n < 2 ^ W) : n / 2 ^ (W - 1) = if n.testBit (W - 1) then 1 else 0 := by
  rw [Nat.testBit_eq_decide_div_mod_eq]
  have h2 : 2 ^ W = 2 ^ (W - 1) * 2 := by rw [← Nat.pow_succ]; congr 1; omega
  have h3 : n / 2 ^ (W - 1) < 2 := by rw [Nat.div_lt_iff_lt_mul (Nat.two_pow_pos _)]; omega
  rcases Nat.eq_zero_or_pos (n / 2 ^ (W - 1)) with h | h
  · simp [h]
  · rw [show n / 2 ^ (W - 1) = 1 by omega]; rfl

theorem raised_any (W L n : Nat) (w : World) (hW1 : 1 ≤ W) (hW : W ≤ 31) (hL : L < 2 ^ W) (hn : n < 2 ^ W) :
    Calls Try.prog 48 #[.agg #[.int .i64 W, .int .u32 L], .int .u32 n] w fun e w' => e = .returned (.int .u32 ((raiseN W L n : Nat) : Int)) ∧ Below w.heap.size w w' := by
  have hp := pow32 hW
  have hsh : ((W : Int) - 1).toNat = W - 1 := by omega
  have hmin : min (W - 1) 32 = W - 1 := by omega
  have hle : 1 ≤ (W : Int) := by omega
  have ht := top_bit hW1 hn
  by_cases hb : n.testBit (W - 1)
  · rw [if_pos hb] at ht
    have h1 : ((n : Int) / 2 ^ (W - 1) == 1) = true := by
      have : ((n : Int) / 2 ^ (W - 1)) = ((n / 2 ^ (W - 1) : Nat) : Int) := by simp
      rw [this, ht]; rfl
    have hlow := fun w => plow_any W L (2 * n) w hW (by omega)
    have e2 : (((2 * n : Nat) : Int)) = (n : Int) * 2 := by omega
    rw [e2] at hlow
    have hxor : bits .xor .u32 ((2 * n % 2 ^ W : Nat) : Int) (L : Int) = ((raiseN W L n : Nat) : Int) := by
      rw [u32_xor_nat _ _ (by have := Nat.mod_lt (2 * n) (Nat.two_pow_pos W); omega) (by omega)]
      unfold raiseN
      rw [if_pos hb]
    have hm : ((2 * n % 2 ^ W : Nat) : Int) < 4294967296 := by have := Nat.mod_lt (2 * n) (Nat.two_pow_pos W); omega
    generalize (2 * n % 2 ^ W : Nat) = m at hlow hxor hm
    generalize raiseN W L n = q at hxor
    have HLOW := Lib.hid hlow
    have HX := Lib.hid hxor
    have g1 : IntKind.u32.wrap ((n : Int) * 2) = (n : Int) * 2 := IntWalk.u32_in _ (by omega)
    clear ht hb hlow hxor e2
    have hbw : Below w.heap.size w (w.alloc (Obj.cells #[Value.int IntKind.i64 ↑W, Value.int IntKind.u32 ↑L] 59)) := (Below.refl _ _).alloc (Nat.le_refl _) _
    have hc0 : (w.alloc (Obj.cells #[Value.int IntKind.i64 ↑W, Value.int IntKind.u32 ↑L] 59)).cell? ⟨w.heap.size, 0, none⟩ = some (.int .i64 W) := by rw [cell_of_row _ _ _ _ _ _ (heap_alloc_new w _)]; rfl
    have hc1 : (w.alloc (Obj.cells #[Value.int IntKind.i64 ↑W, Value.int IntKind.u32 ↑L] 59)).cell? ⟨w.heap.size, 1, none⟩ = some (.int .u32 L) := by rw [cell_of_row _ _ _ _ _ _ (heap_alloc_new w _)]; rfl
    have hsz : w.heap.size < (w.alloc (Obj.cells #[Value.int IntKind.i64 ↑W, Value.int IntKind.u32 ↑L] 59)).heap.size := by simp
    have HB := Lib.hid hbw
    have HS := Lib.hid hsz
    clear hbw hsz
    go_enter Try.func48, Try.ntmps48
    go_wp2_with fail
    generalize (w.alloc (Obj.cells #[Value.int IntKind.i64 ↑W, Value.int IntKind.u32 ↑L] 59)) = w0 at hc0 hc1 HB HS
    have hb0 := HB.out
    have hs0 := HS.out
    go_region_held3 (fun w' => w'.cell? ⟨w.heap.size, 0, none⟩ = some (.int .i64 W) ∧ w'.cell? ⟨w.heap.size, 1, none⟩ = some (.int .u32 L) ∧ Below w.heap.size w w' ∧ w.heap.size < w'.heap.size)
      (first | exact ⟨hc0, hc1, hb0.drew, hs0⟩ | exact ⟨(hb1.cell (p := ⟨w.heap.size, 0, none⟩) (by assumption)).trans (by assumption), (hb1.cell (p := ⟨w.heap.size, 1, none⟩) (by assumption)).trans (by assumption), Below.trans hb0.drew (hb1.mono (Nat.le_of_lt (by assumption))), Nat.lt_of_lt_of_le (by assumption) hb1.size⟩)
      (first | (go_at_call 47; refine (HLOW.out _).mono ?_; rintro e w1 ⟨rfl, hb1⟩))
    rename_i hS
    have hbf := hS.2.2.1
    clear hS
    go_wp2
    go_ret
    exact ⟨ret_int HX.out, hbf⟩
  · rw [if_neg hb] at ht
    have h1 : ((n : Int) / 2 ^ (W - 1) == 1) = false := by
      have : ((n : Int) / 2 ^ (W - 1)) = ((n / 2 ^ (W - 1) : Nat) : Int) := by simp
      rw [this, ht]; rfl
    have HE := Lib.hid (show raiseN W L n = 2 * n from raise_low (by rw [Nat.div_eq_zero_iff] at ht; have := Nat.two_pow_pos (W - 1); omega) hW1)
    clear ht hb
    go_enter Try.func48, Try.ntmps48
    go_wp2_with fail
    go_ret
    exact ⟨ret_int (by rw [HE.out]; omega), (Below.refl _ _).alloc (Nat.le_refl _) _⟩
end Go.Proofs.Ytkgnhmddnfmhjaa