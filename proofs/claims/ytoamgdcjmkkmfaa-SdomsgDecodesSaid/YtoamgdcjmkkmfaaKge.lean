/- Decode, the document's: what its guess makes, for all commands; what is guessed is what is got. -/
import Derived.Test.YtoamgdcjmkkmfaaKgc1fn
import Derived.Test.YtoamgdcjmkkmfaaKgc2
import Derived.Test.YtoamgdcjmkkmfaaKgc7
import Derived.Test.YtoamgdcjmkkmfaaKgc5n
import Derived.Test.YtoamgdcjmkkmfaaKgc14
import Derived.Test.YtoamgdcjmkkmfaaKgc16
import Derived.Test.YtoamgdcjmkkmfaaKo
import Derived.Test.YtoamgdcjmkkmfaaKma
import Derived.Test.YtoamgdcjmkkmfaaKwm
import Derived.Test.YtoamgdcjmkkmfaaKp
set_option linter.unusedSimpArgs false
set_option linter.unusedVariables false
namespace Go.Proofs.Ytoamgdcjmkkmfaa
open Go.RowKit
set_option maxHeartbeats 4000000
def gD (n i a : Nat) (b : List Int) : Int := if i < n then b.getD (a + i) 0 else 0
def gueM (c : Int) (n : Nat) (sd : Bool) (b : List Int) : Ms :=
  if c = 1 ∨ c = 10 then (if n = 0 then ⟨c, getR 2 b 1, getR 1 b 3, false, false, false, false, if sd then getR 4 b 4 else -1, 0, 0, 0, 0, 0, 0, 0, 0, 0, 0, 0, 0, 0⟩ else ⟨c, getR 2 b 1, getR 1 b 3, false, false, true, false, 0, (n : Int), gD n 0 4 b, gD n 1 4 b, gD n 2 4 b, gD n 3 4 b, gD n 4 4 b, gD n 5 4 b, gD n 6 4 b, 0, 0, 0, 0, 0⟩) else
  if c = 2 ∨ c = 11 then ⟨c, 0, 0, decide (b.getD 0 0 / 16 % 2 = 1), decide (b.getD 0 0 % 2 = 1), false, false, 0, (n : Int), gD n 0 1 b, gD n 1 1 b, gD n 2 1 b, gD n 3 1 b, gD n 4 1 b, gD n 5 1 b, gD n 6 1 b, 0, 0, 0, 0, 0⟩ else
  if c = 3 ∨ c = 8 then ⟨c, getR 2 b 1, getR 1 b 3, false, false, false, false, 0, 0, 0, 0, 0, 0, 0, 0, 0, 0, 0, 0, 0, 0⟩ else
  if c = 4 ∨ c = 9 then ⟨c, 0, 0, decide (b.getD 0 0 / 16 % 2 = 1), false, false, false, 0, 0, 0, 0, 0, 0, 0, 0, 0, 0, 0, 0, 0, 0⟩ else
  if c = 5 ∨ c = 13 then ⟨c, getR 2 b 1, getR 1 b 3, false, false, false, decide (b.getD 0 0 / 4 % 2 = 1), if sd then getR 4 b 4 else -1, 0, 0, 0, 0, 0, 0, 0, 0, 0, 0, 0, 0, 0⟩ else
  if c = 6 ∨ c = 12 then ⟨c, getR 2 b 1, getR 1 b 3, false, false, false, decide (b.getD 0 0 / 4 % 2 = 1), 0, 0, 0, 0, 0, 0, 0, 0, 0, 0, 0, getR 1 b 4, 0, 0⟩ else
  if c = 14 then ⟨c, getR 2 b 1, getR 1 b 3, false, false, false, false, 0, 0, 0, 0, 0, 0, 0, 0, 0, getR 4 b 4, 0, 0, 0, 0⟩ else
  if c = 15 then ⟨c, 0, 0, false, false, false, false, 0, 0, 0, 0, 0, 0, 0, 0, 0, 0, getR 1 b 1, getR 1 b 2, 0, 0⟩ else
  if c = 16 then ⟨c, 0, 0, false, false, false, false, 0, 0, 0, 0, 0, 0, 0, 0, 0, 0, 0, 0, b.getD 0 0 / 4 % 8, getR 2 b 1⟩ else ⟨c, 0, 0, false, false, false, false, 0, 0, 0, 0, 0, 0, 0, 0, 0, 0, 0, 0, 0, 0⟩
def GuP (c : Int) (n : Nat) (sd : Bool) (b : List Int) (w : World) : Prop := Calls Try.prog 13 #[.agg (lnA b), .int .i64 c, .agg (rowX c), .int .i64 (n : Int), .bool sd] w fun e w' => e = .returned (.agg (mAr (gueM c n sd b))) ∧ Below w.heap.size w w'
theorem gup_of {c : Int} {n : Nat} {sd : Bool} {b : List Int} {w : World} {F : Array Value} (h : Calls Try.prog 13 #[.agg (lnA b), .int .i64 c, .agg (rowX c), .int .i64 (n : Int), .bool sd] w fun e w' => e = .returned (.agg F) ∧ Below w.heap.size w w') (e : mAr (gueM c n sd b) = F) : GuP c n sd b w := by
  unfold GuP; rw [e]; exact h
theorem gua_1 (b : List Int) (hb8 : Byte8 b) (n : Nat) (hn : n ≤ 4) (sd : Bool) (w : World) : GuP 1 n sd b w := by
  rcases Nat.eq_zero_or_pos n with h | h
  · subst h
    cases sd
    · exact gup_of (gu_1fn 1 (.inl rfl) b hb8 0 rfl w) (by simp [gueM, mAr])
    · exact gup_of (gu_1fy 1 (.inl rfl) b hb8 0 rfl w) (by simp [gueM, mAr])
  · refine gup_of (gu_1t 1 (.inl rfl) b hb8 n ⟨h, hn⟩ sd w) ?_
    have : n = 1 ∨ n = 2 ∨ n = 3 ∨ n = 4 := by omega
    rcases this with rfl | rfl | rfl | rfl <;> simp [gueM, mAr, putM7, gD]
theorem gua_2 (b : List Int) (hb8 : Byte8 b) (n : Nat) (hn : n ≤ 7) (sd : Bool) (w : World) : GuP 2 n sd b w := by
  refine gup_of (gu_2 2 (.inl rfl) b hb8 n hn sd w) ?_
  have : n = 0 ∨ n = 1 ∨ n = 2 ∨ n = 3 ∨ n = 4 ∨ n = 5 ∨ n = 6 ∨ n = 7 := by omega
  rcases this with rfl | rfl | rfl | rfl | rfl | rfl | rfl | rfl <;> simp [gueM, mAr, putM7, gD]
theorem gua_3 (b : List Int) (hb8 : Byte8 b) (n : Nat) (hn : n ≤ 4) (sd : Bool) (w : World) : GuP 3 n sd b w := by
  exact gup_of (gu_3 3 (.inl rfl) b hb8 n (by omega) sd w) (by simp [gueM, mAr])
theorem gua_4 (b : List Int) (hb8 : Byte8 b) (n : Nat) (hn : n ≤ 4) (sd : Bool) (w : World) : GuP 4 n sd b w := by
  exact gup_of (gu_4 4 (.inl rfl) b hb8 n (by omega) sd w) (by simp [gueM, mAr])
theorem gua_5 (b : List Int) (hb8 : Byte8 b) (n : Nat) (hn : n ≤ 4) (sd : Bool) (w : World) : GuP 5 n sd b w := by
  cases sd
  · exact gup_of (gu_5n 5 (.inl rfl) b hb8 n (by omega) w) (by simp [gueM, mAr])
  · exact gup_of (gu_5y 5 (.inl rfl) b hb8 n (by omega) w) (by simp [gueM, mAr])
theorem gua_6 (b : List Int) (hb8 : Byte8 b) (n : Nat) (hn : n ≤ 4) (sd : Bool) (w : World) : GuP 6 n sd b w := by
  exact gup_of (gu_6 6 (.inl rfl) b hb8 n (by omega) sd w) (by simp [gueM, mAr])
theorem gua_7 (b : List Int) (hb8 : Byte8 b) (n : Nat) (hn : n ≤ 4) (sd : Bool) (w : World) : GuP 7 n sd b w := by
  exact gup_of (gu_7 7 (.inl rfl) b hb8 n (by omega) sd w) (by simp [gueM, mAr])
theorem gua_8 (b : List Int) (hb8 : Byte8 b) (n : Nat) (hn : n ≤ 4) (sd : Bool) (w : World) : GuP 8 n sd b w := by
  exact gup_of (gu_3 8 (.inr rfl) b hb8 n (by omega) sd w) (by simp [gueM, mAr])
theorem gua_9 (b : List Int) (hb8 : Byte8 b) (n : Nat) (hn : n ≤ 4) (sd : Bool) (w : World) : GuP 9 n sd b w := by
  exact gup_of (gu_4 9 (.inr rfl) b hb8 n (by omega) sd w) (by simp [gueM, mAr])
theorem gua_10 (b : List Int) (hb8 : Byte8 b) (n : Nat) (hn : n ≤ 4) (sd : Bool) (w : World) : GuP 10 n sd b w := by
  rcases Nat.eq_zero_or_pos n with h | h
  · subst h
    cases sd
    · exact gup_of (gu_1fn 10 (.inr rfl) b hb8 0 rfl w) (by simp [gueM, mAr])
    · exact gup_of (gu_1fy 10 (.inr rfl) b hb8 0 rfl w) (by simp [gueM, mAr])
  · refine gup_of (gu_1t 10 (.inr rfl) b hb8 n ⟨h, hn⟩ sd w) ?_
    have : n = 1 ∨ n = 2 ∨ n = 3 ∨ n = 4 := by omega
    rcases this with rfl | rfl | rfl | rfl <;> simp [gueM, mAr, putM7, gD]
theorem gua_11 (b : List Int) (hb8 : Byte8 b) (n : Nat) (hn : n ≤ 7) (sd : Bool) (w : World) : GuP 11 n sd b w := by
  refine gup_of (gu_2 11 (.inr rfl) b hb8 n hn sd w) ?_
  have : n = 0 ∨ n = 1 ∨ n = 2 ∨ n = 3 ∨ n = 4 ∨ n = 5 ∨ n = 6 ∨ n = 7 := by omega
  rcases this with rfl | rfl | rfl | rfl | rfl | rfl | rfl | rfl <;> simp [gueM, mAr, putM7, gD]
theorem gua_12 (b : List Int) (hb8 : Byte8 b) (n : Nat) (hn : n ≤ 4) (sd : Bool) (w : World) : GuP 12 n sd b w := by
  exact gup_of (gu_6 12 (.inr rfl) b hb8 n (by omega) sd w) (by simp [gueM, mAr])
theorem gua_13 (b : List Int) (hb8 : Byte8 b) (n : Nat) (hn : n ≤ 4) (sd : Bool) (w : World) : GuP 13 n sd b w := by
  cases sd
  · exact gup_of (gu_5n 13 (.inr rfl) b hb8 n (by omega) w) (by simp [gueM, mAr])
  · exact gup_of (gu_5y 13 (.inr rfl) b hb8 n (by omega) w) (by simp [gueM, mAr])
theorem gua_14 (b : List Int) (hb8 : Byte8 b) (n : Nat) (hn : n ≤ 4) (sd : Bool) (w : World) : GuP 14 n sd b w := by
  exact gup_of (gu_14 b hb8 n (by omega) sd w) (by simp [gueM, mAr])
theorem gua_15 (b : List Int) (hb8 : Byte8 b) (n : Nat) (hn : n ≤ 4) (sd : Bool) (w : World) : GuP 15 n sd b w := by
  exact gup_of (gu_15 b hb8 n (by omega) sd w) (by simp [gueM, mAr])
theorem gua_16 (b : List Int) (hb8 : Byte8 b) (n : Nat) (hn : n ≤ 4) (sd : Bool) (w : World) : GuP 16 n sd b w := by
  exact gup_of (gu_16 b hb8 n (by omega) sd w) (by simp [gueM, mAr])
theorem gua_17 (b : List Int) (hb8 : Byte8 b) (n : Nat) (hn : n ≤ 4) (sd : Bool) (w : World) : GuP 17 n sd b w := by
  exact gup_of (gu_7 17 (.inr rfl) b hb8 n (by omega) sd w) (by simp [gueM, mAr])
theorem gu_any (c : Int) (hc : 1 ≤ c ∧ c ≤ 17) (b : List Int) (hb8 : Byte8 b) (n : Nat) (hn : n ≤ 4 ∨ n ≤ 7 ∧ (c = 2 ∨ c = 11)) (sd : Bool) (w : World) : GuP c n sd b w := by
  have : c = 1 ∨ c = 2 ∨ c = 3 ∨ c = 4 ∨ c = 5 ∨ c = 6 ∨ c = 7 ∨ c = 8 ∨ c = 9 ∨ c = 10 ∨ c = 11 ∨ c = 12 ∨ c = 13 ∨ c = 14 ∨ c = 15 ∨ c = 16 ∨ c = 17 := by omega
  rcases this with rfl | rfl | rfl | rfl | rfl | rfl | rfl | rfl | rfl | rfl | rfl | rfl | rfl | rfl | rfl | rfl | rfl
  · exact gua_1 b hb8 n (by omega) sd w
  · exact gua_2 b hb8 n (by omega) sd w
  · exact gua_3 b hb8 n (by omega) sd w
  · exact gua_4 b hb8 n (by omega) sd w
  · exact gua_5 b hb8 n (by omega) sd w
  · exact gua_6 b hb8 n (by omega) sd w
  · exact gua_7 b hb8 n (by omega) sd w
  · exact gua_8 b hb8 n (by omega) sd w
  · exact gua_9 b hb8 n (by omega) sd w
  · exact gua_10 b hb8 n (by omega) sd w
  · exact gua_11 b hb8 n (by omega) sd w
  · exact gua_12 b hb8 n (by omega) sd w
  · exact gua_13 b hb8 n (by omega) sd w
  · exact gua_14 b hb8 n (by omega) sd w
  · exact gua_15 b hb8 n (by omega) sd w
  · exact gua_16 b hb8 n (by omega) sd w
  · exact gua_17 b hb8 n (by omega) sd w
theorem gs_u32 {a b c d : Int} (t : Bool) (ha : 0 ≤ a ∧ a ≤ 255) (hb : 0 ≤ b ∧ b ≤ 255) (hc : 0 ≤ c ∧ c ≤ 255) (hd : 0 ≤ d ∧ d ≤ 255) : gsN t 0 [a, b, c, d] = if t = true then a + 256 * b + 65536 * c + 16777216 * d else -1 := by
  cases t
  · rfl
  · show rnN 0 4 [a, b, c, d] = _
    rw [rn_u32 ha hb hc hd]; rfl
theorem gue_got (c : Int) (hc : 1 ≤ c ∧ c ≤ 17) (b : List Int) (hb8 : Byte8 b) : ∃ (n : Nat) (sd : Bool), (n ≤ 4 ∨ n ≤ 7 ∧ (c = 2 ∨ c = 11)) ∧ gueM c n sd b = getM c b := by
  have r2 : getR 2 b 1 = b.getD 1 0 + 256 * b.getD 2 0 := by simp only [getR, Nat.reduceAdd]; omega
  have r1 : ∀ k, getR 1 b k = b.getD k 0 := fun k => by simp only [getR]; omega
  have r4 : getR 4 b 4 = b.getD 4 0 + 256 * b.getD 5 0 + 65536 * b.getD 6 0 + 16777216 * b.getD 7 0 := by simp only [getR, Nat.reduceAdd]; omega
  have hb0 := hb8 0
  have hs4 := fun t => gs_u32 t (hb8 4) (hb8 5) (hb8 6) (hb8 7)
  unfold gueM getM gD
  simp only [r1, r2, r4, hs4]
  clear r1 r2 r4 hs4
  clear hb8
  obtain ⟨x0, e0⟩ : ∃ x, b.getD 0 0 = x := ⟨_, rfl⟩
  obtain ⟨x1, e1⟩ : ∃ x, b.getD 1 0 = x := ⟨_, rfl⟩
  obtain ⟨x2, e2⟩ : ∃ x, b.getD 2 0 = x := ⟨_, rfl⟩
  obtain ⟨x3, e3⟩ : ∃ x, b.getD 3 0 = x := ⟨_, rfl⟩
  obtain ⟨x4, e4⟩ : ∃ x, b.getD 4 0 = x := ⟨_, rfl⟩
  obtain ⟨x5, e5⟩ : ∃ x, b.getD 5 0 = x := ⟨_, rfl⟩
  obtain ⟨x6, e6⟩ : ∃ x, b.getD 6 0 = x := ⟨_, rfl⟩
  obtain ⟨x7, e7⟩ : ∃ x, b.getD 7 0 = x := ⟨_, rfl⟩
  rw [e0] at hb0
  simp only [Nat.reduceAdd, e0, e1, e2, e3, e4, e5, e6, e7]
  have : c = 1 ∨ c = 2 ∨ c = 3 ∨ c = 4 ∨ c = 5 ∨ c = 6 ∨ c = 7 ∨ c = 8 ∨ c = 9 ∨ c = 10 ∨ c = 11 ∨ c = 12 ∨ c = 13 ∨ c = 14 ∨ c = 15 ∨ c = 16 ∨ c = 17 := by omega
  rcases this with rfl | rfl | rfl | rfl | rfl | rfl | rfl | rfl | rfl | rfl | rfl | rfl | rfl | rfl | rfl | rfl | rfl
  · by_cases hf : x0 / 2 % 2 = 1
    · obtain ⟨n, hn⟩ : ∃ n : Nat, 4 - x0 / 4 % 4 = (n : Int) := ⟨(4 - x0 / 4 % 4).toNat, by omega⟩
      refine ⟨n, false, .inl (by omega), ?_⟩
      have hn' : n = 1 ∨ n = 2 ∨ n = 3 ∨ n = 4 := by omega
      rcases hn' with rfl | rfl | rfl | rfl <;> simp [hf, hn]
    · refine ⟨0, decide (x0 % 2 = 1), .inl (by omega), ?_⟩
      simp [hf]
  · obtain ⟨n, hn⟩ : ∃ n : Nat, 7 - x0 / 2 % 8 = (n : Int) := ⟨(7 - x0 / 2 % 8).toNat, by omega⟩
    refine ⟨n, false, .inr ⟨by omega, by simp⟩, ?_⟩
    have hn' : n = 0 ∨ n = 1 ∨ n = 2 ∨ n = 3 ∨ n = 4 ∨ n = 5 ∨ n = 6 ∨ n = 7 := by omega
    rcases hn' with rfl | rfl | rfl | rfl | rfl | rfl | rfl | rfl <;> simp [hn]
  · refine ⟨0, false, .inl (by omega), ?_⟩
    simp
  · refine ⟨0, false, .inl (by omega), ?_⟩
    simp
  · refine ⟨0, decide (x0 / 2 % 2 = 1), .inl (by omega), ?_⟩
    simp
  · refine ⟨0, false, .inl (by omega), ?_⟩
    simp
  · refine ⟨0, false, .inl (by omega), ?_⟩
    simp
  · refine ⟨0, false, .inl (by omega), ?_⟩
    simp
  · refine ⟨0, false, .inl (by omega), ?_⟩
    simp
  · by_cases hf : x0 / 2 % 2 = 1
    · obtain ⟨n, hn⟩ : ∃ n : Nat, 4 - x0 / 4 % 4 = (n : Int) := ⟨(4 - x0 / 4 % 4).toNat, by omega⟩
      refine ⟨n, false, .inl (by omega), ?_⟩
      have hn' : n = 1 ∨ n = 2 ∨ n = 3 ∨ n = 4 := by omega
      rcases hn' with rfl | rfl | rfl | rfl <;> simp [hf, hn]
    · refine ⟨0, decide (x0 % 2 = 1), .inl (by omega), ?_⟩
      simp [hf]
  · obtain ⟨n, hn⟩ : ∃ n : Nat, 7 - x0 / 2 % 8 = (n : Int) := ⟨(7 - x0 / 2 % 8).toNat, by omega⟩
    refine ⟨n, false, .inr ⟨by omega, by simp⟩, ?_⟩
    have hn' : n = 0 ∨ n = 1 ∨ n = 2 ∨ n = 3 ∨ n = 4 ∨ n = 5 ∨ n = 6 ∨ n = 7 := by omega
    rcases hn' with rfl | rfl | rfl | rfl | rfl | rfl | rfl | rfl <;> simp [hn]
  · refine ⟨0, false, .inl (by omega), ?_⟩
    simp
  · refine ⟨0, decide (x0 / 2 % 2 = 1), .inl (by omega), ?_⟩
    simp
  · refine ⟨0, false, .inl (by omega), ?_⟩
    simp
  · refine ⟨0, false, .inl (by omega), ?_⟩
    simp
  · refine ⟨0, false, .inl (by omega), ?_⟩
    simp
  · refine ⟨0, false, .inl (by omega), ?_⟩
    simp
end Go.Proofs.Ytoamgdcjmkkmfaa
namespace Go.Proofs.Ytoamgdcjmkkmfaa
open Go.RowKit
set_option maxHeartbeats 4000000
theorem eqL_all {a b : List Int} (h : eqL a b = true) : a.getD 0 0 = b.getD 0 0 ∧ a.getD 1 0 = b.getD 1 0 ∧ a.getD 2 0 = b.getD 2 0 ∧ a.getD 3 0 = b.getD 3 0 ∧ a.getD 4 0 = b.getD 4 0 ∧ a.getD 5 0 = b.getD 5 0 ∧ a.getD 6 0 = b.getD 6 0 ∧ a.getD 7 0 = b.getD 7 0 := of_decide_eq_true h
theorem getM_cong {a b : List Int} (h : eqL a b = true) (c : Int) : getM c a = getM c b := by
  obtain ⟨h0, h1, h2, h3, h4, h5, h6, h7⟩ := eqL_all h
  unfold getM
  simp only [h0, h1, h2, h3, h4, h5, h6, h7]
theorem eqL_cong {a b : List Int} (h : eqL a b = true) (x : List Int) : eqL x a = eqL x b := by
  obtain ⟨h0, h1, h2, h3, h4, h5, h6, h7⟩ := eqL_all h
  unfold eqL
  simp only [h0, h1, h2, h3, h4, h5, h6, h7]
theorem decM_cong {a b : List Int} (h : eqL a b = true) (ans : Bool) : decM a ans = decM b ans := by
  unfold decM
  simp only [getM_cong h, eqL_cong h, (eqL_all h).1]
theorem gue_sound {g : Ms} {b : List Int} {ans : Bool} (h1 : (encM g).2 = 0) (h2 : eqL (encM g).1 b = true) (ha : askB ans g.c = true) : decM b ans = (g, 0) := by
  rw [← decM_cong h2]; exact dec_enc h1 ha
theorem gueM_c (c : Int) (n : Nat) (sd : Bool) (b : List Int) : (gueM c n sd b).c = c := by
  unfold gueM
  repeat' split
  all_goals rfl
theorem cmd_ask_all : ∀ (k : Fin 256) (ans : Bool), 1 ≤ cmdE ((k.val : Nat) : Int) ans → askB ans (cmdE ((k.val : Nat) : Int) ans) = true := by decide +kernel
theorem cmd_ask {h : Int} (h0 : 0 ≤ h) (h1 : h ≤ 255) (ans : Bool) (hc : 1 ≤ cmdE h ans) : askB ans (cmdE h ans) = true := by
  have := cmd_ask_all ⟨h.toNat, by omega⟩ ans
  simp only [] at this
  rw [show ((h.toNat : Nat) : Int) = h by omega] at this
  exact this hc
theorem decM_fail {b : List Int} {ans : Bool} (h : ¬ (decM b ans).2 = 0) : decM b ans = (zM, 4) := by
  unfold decM at h ⊢
  split at h
  · simp at h
  · rename_i h1; rw [if_neg h1]
def OkAt (b : List Int) (ans : Bool) (c : Int) (n : Nat) (sd : Bool) : Prop := (encM (gueM c n sd b)).2 = 0 ∧ eqL (encM (gueM c n sd b)).1 b = true
theorem ok_sound {b : List Int} {ans : Bool} {c : Int} {n : Nat} {sd : Bool} (h : OkAt b ans c n sd) (ha : askB ans c = true) : decM b ans = (gueM c n sd b, 0) :=
  gue_sound h.1 h.2 (by rw [gueM_c]; exact ha)
theorem none_fail {b : List Int} {ans : Bool} (hb : Byte8 b) (h : ∀ (c : Int) (n : Nat) (sd : Bool), 1 ≤ c ∧ c ≤ 17 → askB ans c = true → (n ≤ 4 ∨ n ≤ 7 ∧ (c = 2 ∨ c = 11)) → ¬ OkAt b ans c n sd) : decM b ans = (zM, 4) := by
  apply decM_fail
  intro h2
  have h3 := dec_ok h2
  have hr := cmdE_rng (b.getD 0 0) ans
  have e : (decM b ans).1 = getM (cmdE (b.getD 0 0) ans) b := by
    unfold decM at h2 ⊢
    split at h2
    · rename_i h1; rw [if_pos h1]
    · simp at h2
  rw [e] at h3
  have hc : 1 ≤ cmdE (b.getD 0 0) ans := by
    have h4 := (enc_ok h3.1).1
    by_cases h0 : cmdE (b.getD 0 0) ans = 0
    · rw [h0] at h4
      have : (getM 0 b).c = 0 := rfl
      omega
    · omega
  obtain ⟨n, sd, hn, hg⟩ := gue_got (cmdE (b.getD 0 0) ans) ⟨hc, hr.2⟩ b hb
  refine h (cmdE (b.getD 0 0) ans) n sd ⟨hc, hr.2⟩ (cmd_ask (hb 0).1 (hb 0).2 ans hc) hn ?_
  unfold OkAt
  rw [hg]
  exact h3
end Go.Proofs.Ytoamgdcjmkkmfaa
