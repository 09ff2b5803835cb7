/- What is read of a line's bytes. -/
import Derived.Test.YtfccjekhdfpkoaaKj
namespace Go.Proofs.Ytfccjekhdfpkoaa
open Go.RowKit
set_option linter.unusedSimpArgs false
set_option linter.unusedVariables false

theorem rn_u16 {a b : Int} {l : List Int} (ha : 0 ≤ a ∧ a ≤ 255) (hb : 0 ≤ b ∧ b ≤ 255) : rnN 0 3 (a :: b :: l) = a + 256 * b ∧ rnE 0 3 (a :: b :: l) = 0 ∧ rnL 0 3 (a :: b :: l) = l := by
  have hv : valL 3 [a, b] = a + 256 * b := by
    unfold valL
    have e : numL [a, b] = a + 256 * b := by simp [numL]
    rw [e, if_neg (by simp [kHigh]; omega)]
  have hf : fitB 3 (a + 256 * b) = true := by simp [fitB, kSize, kLow, kHigh]; omega
  have hn : nextE 3 (a :: b :: l) = 0 := by
    unfold nextE getE
    simp [kSize, hv, hf]
    omega
  have hE : rnE 0 3 (a :: b :: l) = 0 := by simp [rnE, fe, hn]
  refine ⟨?_, hE, ?_⟩
  · unfold rnN
    rw [if_pos hE]
    unfold nextN getN
    simp [kSize, hv, hf]
    omega
  · unfold rnL
    rw [if_pos hE]
    simp [kSize]
theorem rn_u8 {a : Int} {l : List Int} (ha : 0 ≤ a ∧ a ≤ 255) : rnN 0 2 (a :: l) = a ∧ rnE 0 2 (a :: l) = 0 ∧ rnL 0 2 (a :: l) = l := by
  have hv : valL 2 [a] = a := by
    unfold valL
    have e : numL [a] = a := by simp [numL]
    rw [e, if_neg (by simp [kHigh]; omega)]
  have hf : fitB 2 a = true := by simp [fitB, kSize, kLow, kHigh]; omega
  have hn : nextE 2 (a :: l) = 0 := by
    unfold nextE getE
    simp [kSize, hv, hf]
    omega
  have hE : rnE 0 2 (a :: l) = 0 := by simp [rnE, fe, hn]
  refine ⟨?_, hE, ?_⟩
  · unfold rnN
    rw [if_pos hE]
    unfold nextN getN
    simp [kSize, hv, hf]
    omega
  · unfold rnL
    rw [if_pos hE]
    simp [kSize]
theorem rn_u32 {a b c d : Int} {l : List Int} (ha : 0 ≤ a ∧ a ≤ 255) (hb : 0 ≤ b ∧ b ≤ 255) (hc : 0 ≤ c ∧ c ≤ 255) (hd : 0 ≤ d ∧ d ≤ 255) : rnN 0 4 (a :: b :: c :: d :: l) = a + 256 * b + 65536 * c + 16777216 * d := by
  have hv : valL 4 [a, b, c, d] = a + 256 * b + 65536 * c + 16777216 * d := by
    unfold valL
    have e : numL [a, b, c, d] = a + 256 * b + 65536 * c + 16777216 * d := by simp [numL]; omega
    rw [e, if_neg (by simp [kHigh]; omega)]
  have hf : fitB 4 (a + 256 * b + 65536 * c + 16777216 * d) = true := by simp [fitB, kSize, kLow, kHigh]; omega
  have hn : nextE 4 (a :: b :: c :: d :: l) = 0 := by
    unfold nextE getE
    simp [kSize, hv, hf]
    omega
  have hE : rnE 0 4 (a :: b :: c :: d :: l) = 0 := by simp [rnE, fe, hn]
  unfold rnN
  rw [if_pos hE]
  unfold nextN getN
  simp [kSize, hv, hf]
  omega
theorem gk_line {b1 b2 b3 : Int} {l : List Int} (h1 : 0 ≤ b1 ∧ b1 ≤ 255) (h2 : 0 ≤ b2 ∧ b2 ≤ 255) (h3 : 0 ≤ b3 ∧ b3 ≤ 255) : gkI 0 (b1 :: b2 :: b3 :: l) = b1 + 256 * b2 ∧ gkS 0 (b1 :: b2 :: b3 :: l) = b3 ∧ gkE 0 (b1 :: b2 :: b3 :: l) = 0 ∧ gkL 0 (b1 :: b2 :: b3 :: l) = l := by
  obtain ⟨e1, e2, e3⟩ := rn_u16 (l := b3 :: l) h1 h2
  obtain ⟨e4, e5, e6⟩ := rn_u8 (l := l) h3
  unfold gkI gkS gkE gkL
  rw [e1, e2, e3, e4, e5, e6]
  exact ⟨rfl, rfl, rfl, rfl⟩
theorem rr_line {l : List Int} {k : Int} (h0 : 0 ≤ k) (hk : k ≤ l.length) : rrA 0 k l = l.take k.toNat := by
  have : rrE 0 k l = 0 := by
    unfold rrE lackE fe
    simp
    omega
  unfold rrA
  rw [if_pos this]
theorem bA_all : ∀ h : Fin 256, bits BinOp.and IntKind.i64 (h.val : Int) 16 = h.val / 16 % 2 * 16 ∧ bits BinOp.and IntKind.i64 (h.val : Int) 1 = h.val % 2 ∧ bits BinOp.and IntKind.i64 (h.val : Int) 2 = h.val / 2 % 2 * 2 ∧ bits BinOp.and IntKind.i64 (h.val : Int) 4 = h.val / 4 % 2 * 4 ∧ bits BinOp.and IntKind.i64 ((h.val : Int) / 2) 7 = h.val / 2 % 8 ∧ bits BinOp.and IntKind.i64 ((h.val : Int) / 4) 7 = h.val / 4 % 8 ∧ bits BinOp.and IntKind.i64 ((h.val : Int) / 4) 3 = h.val / 4 % 4 := by decide +kernel
theorem bA {h : Int} (h0 : 0 ≤ h) (h1 : h ≤ 255) : bits BinOp.and IntKind.i64 h 16 = h / 16 % 2 * 16 ∧ bits BinOp.and IntKind.i64 h 1 = h % 2 ∧ bits BinOp.and IntKind.i64 h 2 = h / 2 % 2 * 2 ∧ bits BinOp.and IntKind.i64 h 4 = h / 4 % 2 * 4 ∧ bits BinOp.and IntKind.i64 (h / 2) 7 = h / 2 % 8 ∧ bits BinOp.and IntKind.i64 (h / 4) 7 = h / 4 % 8 ∧ bits BinOp.and IntKind.i64 (h / 4) 3 = h / 4 % 4 := by
  have := bA_all ⟨h.toNat, by omega⟩
  simp only [show ((h.toNat : Nat) : Int) = h by omega] at this
  exact this
theorem b_of {x : Int} {k : Int} (hx : x = 0 ∨ x = 1) (hk : k ≠ 0) : (x * k != 0) = decide (x = 1) := by
  rcases hx with rfl | rfl
  · simp
  · simp [hk]
/-- The head's bits, as a walk shows them. -/
theorem bT {h : Int} (h0 : 0 ≤ h) (h1 : h ≤ 255) : (bits BinOp.and IntKind.i64 h 16 != 0) = decide (h / 16 % 2 = 1) ∧ (bits BinOp.and IntKind.i64 h 1 != 0) = decide (h % 2 = 1) ∧ (bits BinOp.and IntKind.i64 h 2 != 0) = decide (h / 2 % 2 = 1) ∧ (bits BinOp.and IntKind.i64 h 4 != 0) = decide (h / 4 % 2 = 1) ∧
    wrap64 (7 - bits BinOp.and IntKind.i64 (h / 2) 7) = 7 - h / 2 % 8 ∧ wrap64 (4 - bits BinOp.and IntKind.i64 (h / 4) 3) = 4 - h / 4 % 4 ∧ bits BinOp.and IntKind.i64 (h / 4) 7 = h / 4 % 8 := by
  obtain ⟨e1, e2, e3, e4, e5, e6, e7⟩ := bA h0 h1
  refine ⟨?_, ?_, ?_, ?_, ?_, ?_, e6⟩
  · rw [e1]; exact b_of (by omega) (by omega)
  · rw [e2]; have := b_of (x := h % 2) (k := 1) (by omega) (by omega); simpa using this
  · rw [e3]; exact b_of (by omega) (by omega)
  · rw [e4]; exact b_of (by omega) (by omega)
  · rw [e5]; unfold wrap64; omega
  · rw [e7]; unfold wrap64; omega
end Go.Proofs.Ytfccjekhdfpkoaa
