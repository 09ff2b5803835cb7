/- The Cmd that a line's first byte tells. -/
import Derived.Test.YtoamgdcjmkkmfaaKp
import Derived.Test.YtoamgdcjmkkmfaaKz
set_option linter.unusedSimpArgs false
set_option linter.unusedVariables false
namespace Go.Proofs.Ytoamgdcjmkkmfaa
open Go.RowKit
set_option maxHeartbeats 4000000

theorem wN_head {k n : Int} {s : Int × List Int} {x : Int} (h : s.2.getD 0 0 = x) (h0 : 0 < s.2.length) : (wN k n s).2.getD 0 0 = x ∧ 0 < (wN k n s).2.length := by
  unfold wN
  split
  · refine ⟨?_, by simp; omega⟩
    rw [← h]
    simp [List.getD, List.getElem?_append_left h0]
  · exact ⟨h, h0⟩
theorem wR_head {l : List Int} {s : Int × List Int} {x : Int} (h : s.2.getD 0 0 = x) (h0 : 0 < s.2.length) : (wR l s).2.getD 0 0 = x ∧ 0 < (wR l s).2.length := by
  unfold wR
  split
  · refine ⟨?_, by simp; omega⟩
    rw [← h]
    simp [List.getD, List.getElem?_append_left h0]
  · exact ⟨h, h0⟩
theorem wN_first {n : Int} (h0 : 0 ≤ n) (h1 : n ≤ 255) : wN 2 n (0, []) = (0, [n]) := by
  have hf : fitB 2 n = true := by simp [fitB, kSize, kLow, kHigh]; omega
  have hp : putA 2 n = [n] := by
    unfold putA putL
    rw [if_pos hf]
    have : (kSize 2).toNat = 1 := by decide
    rw [this]
    simp [List.range_succ]
    omega
  unfold wN fe putE
  simp [hf, hp]
theorem head_rng {m : Ms} (hk : canM m = true) (hc : 1 ≤ m.c ∧ m.c ≤ 17) : 0 ≤ headE m.c m.tg m.la m.fa m.su m.sz m.n m.sp ∧ headE m.c m.tg m.la m.fa m.su m.sz m.n m.sp ≤ 255 := by
  obtain ⟨c, ki, ks, tg, la, fa, su, sz, n, d0, d1, d2, d3, d4, d5, d6, co, sq, bl, sp, cr⟩ := m
  simp only at hc ⊢
  have : c = 1 ∨ c = 2 ∨ c = 3 ∨ c = 4 ∨ c = 5 ∨ c = 6 ∨ c = 7 ∨ c = 8 ∨ c = 9 ∨ c = 10 ∨ c = 11 ∨ c = 12 ∨ c = 13 ∨ c = 14 ∨ c = 15 ∨ c = 16 ∨ c = 17 := by omega
  rcases this with rfl | rfl | rfl | rfl | rfl | rfl | rfl | rfl | rfl | rfl | rfl | rfl | rfl | rfl | rfl | rfl | rfl
  all_goals cases tg <;> cases la <;> cases fa <;> cases su <;> by_cases hz : sz = -1 <;> simp [canM, canE, inB, headE, begunE, bitN, hz] at hk ⊢ <;> omega
theorem stM_head {m : Ms} (hk : canM m = true) (hc : 1 ≤ m.c ∧ m.c ≤ 17) : (stM m).2.getD 0 0 = headE m.c m.tg m.la m.fa m.su m.sz m.n m.sp := by
  have hr := head_rng hk hc
  unfold stM stE restE wK wZ
  rw [wN_first hr.1 hr.2]
  generalize headE m.c m.tg m.la m.fa m.su m.sz m.n m.sp = x
  have h1 : (((0 : Int), [x]) : Int × List Int).2.getD 0 0 = x ∧ 0 < (((0 : Int), [x]) : Int × List Int).2.length := ⟨rfl, by simp⟩
  have N : ∀ k n (s : Int × List Int), s.2.getD 0 0 = x ∧ 0 < s.2.length → (wN k n s).2.getD 0 0 = x ∧ 0 < (wN k n s).2.length := fun k n s h => wN_head h.1 h.2
  have R : ∀ l (s : Int × List Int), s.2.getD 0 0 = x ∧ 0 < s.2.length → (wR l s).2.getD 0 0 = x ∧ 0 < (wR l s).2.length := fun l s h => wR_head h.1 h.2
  (repeat' split)
  all_goals first
    | exact h1.1
    | exact (R _ _ h1).1
    | exact (R _ _ (N _ _ _ (N _ _ _ h1))).1
    | exact (N _ _ _ h1).1
    | exact (N _ _ _ (N _ _ _ h1)).1
    | exact (N _ _ _ (N _ _ _ (N _ _ _ h1))).1
def askB (ans : Bool) (c : Int) : Bool := if ans then decide (8 ≤ c ∧ c ≤ 17) else decide ((1 ≤ c ∧ c ≤ 7) ∨ 14 ≤ c)
theorem bit_cases (b : Bool) (k : Int) : bitN b k = 0 ∨ bitN b k = k := by cases b <;> simp [bitN]
theorem cmd_head {m : Ms} (hk : canM m = true) (hc : 1 ≤ m.c ∧ m.c ≤ 17) {ans : Bool} (ha : askB ans m.c = true) : cmdE (headE m.c m.tg m.la m.fa m.su m.sz m.n m.sp) ans = m.c := by
  obtain ⟨c, ki, ks, tg, la, fa, su, sz, n, d0, d1, d2, d3, d4, d5, d6, co, sq, bl, sp, cr⟩ := m
  simp only at hc ha ⊢
  have h1 := bit_cases tg 16
  have h2 := bit_cases la 1
  have h3 := bit_cases su 4
  have h4 := bit_cases (decide (¬ sz = -1)) 2
  have : c = 1 ∨ c = 2 ∨ c = 3 ∨ c = 4 ∨ c = 5 ∨ c = 6 ∨ c = 7 ∨ c = 8 ∨ c = 9 ∨ c = 10 ∨ c = 11 ∨ c = 12 ∨ c = 13 ∨ c = 14 ∨ c = 15 ∨ c = 16 ∨ c = 17 := by omega
  rcases this with rfl | rfl | rfl | rfl | rfl | rfl | rfl | rfl | rfl | rfl | rfl | rfl | rfl | rfl | rfl | rfl | rfl
  · cases ans
    case true => simp [askB] at ha
    case false =>
      have hn : fa = true → 1 ≤ n ∧ n ≤ 4 := by
        intro h
        subst h
        simpa [canM, canE, inB] using hk
      have hg := beg_rng (sz := sz) hn
      have e : headE 1 tg la fa su sz n sp = 32 + begunE fa sz n := by simp [headE]
      rw [e]
      have hq : (32 + begunE fa sz n) / 32 = 1 := by omega
      unfold cmdE
      rw [hq]
      rfl
  · cases ans
    case true => simp [askB] at ha
    case false =>
      have hn : 0 ≤ n ∧ n ≤ 7 := by simpa [canM, canE, inB] using hk
      have e : headE 2 tg la fa su sz n sp = bitN tg 16 + (7 - n) * 2 + bitN la 1 := by simp [headE]
      rw [e]
      have hq : (bitN tg 16 + (7 - n) * 2 + bitN la 1) / 32 = 0 := by omega
      unfold cmdE
      rw [hq]
      rfl
  · cases ans
    case true => simp [askB] at ha
    case false =>
      have e : headE 3 tg la fa su sz n sp = 64 := by simp [headE]
      rw [e]
      first | rfl | (cases ans <;> rfl)
  · cases ans
    case true => simp [askB] at ha
    case false =>
      have e : headE 4 tg la fa su sz n sp = 96 + bitN tg 16 := by simp [headE]
      rw [e]
      have hq : (96 + bitN tg 16) / 32 = 3 := by omega
      unfold cmdE
      rw [hq]
      rfl
  · cases ans
    case true => simp [askB] at ha
    case false =>
      have e : headE 5 tg la fa su sz n sp = 192 + bitN su 4 + bitN (decide (¬ sz = -1)) 2 := by simp [headE]
      rw [e]
      have hq : (192 + bitN su 4 + bitN (decide (¬ sz = -1)) 2) / 32 = 6 := by omega
      have hm : (192 + bitN su 4 + bitN (decide (¬ sz = -1)) 2) % 2 = 0 := by omega
      unfold cmdE
      rw [hq, hm]
      rfl
  · cases ans
    case true => simp [askB] at ha
    case false =>
      have e : headE 6 tg la fa su sz n sp = 160 + bitN su 4 := by simp [headE]
      rw [e]
      have hq : (160 + bitN su 4) / 32 = 5 := by omega
      have hm : (160 + bitN su 4) % 4 = 0 := by omega
      unfold cmdE blkE
      rw [hq, hm]
      rfl
  · cases ans
    case true => simp [askB] at ha
    case false =>
      have e : headE 7 tg la fa su sz n sp = 163 := by simp [headE]
      rw [e]
      first | rfl | (cases ans <;> rfl)
  · cases ans
    case false => simp [askB] at ha
    case true =>
      have e : headE 8 tg la fa su sz n sp = 96 := by simp [headE]
      rw [e]
      first | rfl | (cases ans <;> rfl)
  · cases ans
    case false => simp [askB] at ha
    case true =>
      have e : headE 9 tg la fa su sz n sp = 32 + bitN tg 16 := by simp [headE]
      rw [e]
      have hq : (32 + bitN tg 16) / 32 = 1 := by omega
      unfold cmdE
      rw [hq]
      rfl
  · cases ans
    case false => simp [askB] at ha
    case true =>
      have hn : fa = true → 1 ≤ n ∧ n ≤ 4 := by
        intro h
        subst h
        simpa [canM, canE, inB] using hk
      have hg := beg_rng (sz := sz) hn
      have e : headE 10 tg la fa su sz n sp = 64 + begunE fa sz n := by simp [headE]
      rw [e]
      have hq : (64 + begunE fa sz n) / 32 = 2 := by omega
      unfold cmdE
      rw [hq]
      rfl
  · cases ans
    case false => simp [askB] at ha
    case true =>
      have hn : 0 ≤ n ∧ n ≤ 7 := by simpa [canM, canE, inB] using hk
      have e : headE 11 tg la fa su sz n sp = bitN tg 16 + (7 - n) * 2 + bitN la 1 := by simp [headE]
      rw [e]
      have hq : (bitN tg 16 + (7 - n) * 2 + bitN la 1) / 32 = 0 := by omega
      unfold cmdE
      rw [hq]
      rfl
  · cases ans
    case false => simp [askB] at ha
    case true =>
      have e : headE 12 tg la fa su sz n sp = 160 + bitN su 4 := by simp [headE]
      rw [e]
      have hq : (160 + bitN su 4) / 32 = 5 := by omega
      have hm : (160 + bitN su 4) % 4 = 0 := by omega
      unfold cmdE blkE
      rw [hq, hm]
      rfl
  · cases ans
    case false => simp [askB] at ha
    case true =>
      have e : headE 13 tg la fa su sz n sp = 192 + bitN su 4 + bitN (decide (¬ sz = -1)) 2 := by simp [headE]
      rw [e]
      have hq : (192 + bitN su 4 + bitN (decide (¬ sz = -1)) 2) / 32 = 6 := by omega
      have hm : (192 + bitN su 4 + bitN (decide (¬ sz = -1)) 2) % 2 = 0 := by omega
      unfold cmdE
      rw [hq, hm]
      rfl
  · skip
    have e : headE 14 tg la fa su sz n sp = 128 := by simp [headE]
    rw [e]
    first | rfl | (cases ans <;> rfl)
  · skip
    have e : headE 15 tg la fa su sz n sp = 162 := by simp [headE]
    rw [e]
    first | rfl | (cases ans <;> rfl)
  · skip
    have hn : 0 ≤ sp ∧ sp ≤ 7 := by simpa [canM, canE, inB] using hk
    have e : headE 16 tg la fa su sz n sp = 193 + sp * 4 := by simp [headE]
    rw [e]
    have hq : (193 + sp * 4) / 32 = 6 := by omega
    have hm : (193 + sp * 4) % 2 = 1 := by omega
    unfold cmdE
    rw [hq, hm]
    rfl
  · skip
    have e : headE 17 tg la fa su sz n sp = 161 := by simp [headE]
    rw [e]
    first | rfl | (cases ans <;> rfl)
end Go.Proofs.Ytoamgdcjmkkmfaa
namespace Go.Proofs.Ytoamgdcjmkkmfaa
open Go.RowKit
theorem eqL_refl (l : List Int) : eqL l l = true := by simp [eqL]
theorem eqM_refl (m : Ms) : eqM m m = true := eqM_iff.2 rfl
theorem fit2 (n : Int) : fitB 2 n = inB n 0 255 := by simp [fitB, inB, kSize, kLow, kHigh]
theorem fit3 (n : Int) : fitB 3 n = inB n 0 65535 := by simp [fitB, inB, kSize, kLow, kHigh]
theorem fit4 (n : Int) : fitB 4 n = inB n 0 4294967295 := by simp [fitB, inB, kSize, kLow, kHigh]
theorem wN_zero (k n : Int) (s : Int × List Int) : (wN k n s).1 = 0 ↔ s.1 = 0 ∧ fitB k n = true := by
  unfold wN fe putE
  by_cases h1 : s.1 = 0 <;> by_cases h2 : fitB k n = true <;> simp [h1, h2]
theorem wR_zero (x : List Int) (s : Int × List Int) : (wR x s).1 = 0 ↔ s.1 = 0 := by
  unfold wR
  by_cases h1 : s.1 = 0 <;> simp [h1]
theorem wN_yes {k n : Int} {l : List Int} (h : fitB k n = true) : wN k n (0, l) = (0, l ++ putL k n) := by
  unfold wN fe putE putA
  simp [h]
theorem wR_yes {x l : List Int} : wR x (0, l) = (0, l ++ x) := by simp [wR]
theorem pl2 (n : Int) : putL 2 n = [n % 256] := by
  unfold putL
  rw [show (kSize 2).toNat = 1 by decide]
  simp [List.range_succ]
theorem pl3 (n : Int) : putL 3 n = [n % 256, n / 256 % 256] := by
  unfold putL
  rw [show (kSize 3).toNat = 2 by decide]
  simp [List.range_succ]
theorem pl4 (n : Int) : putL 4 n = [n % 256, n / 256 % 256, n / 65536 % 256, n / 16777216 % 256] := by
  unfold putL
  rw [show (kSize 4).toNat = 4 by decide]
  simp [List.range_succ]
def rngM (m : Ms) : Bool := rngE m.c m.ki m.ks m.fa m.sz m.n m.co m.sq m.bl m.sp m.cr
theorem rng_can {m : Ms} (hc : 1 ≤ m.c ∧ m.c ≤ 17) (h : rngM m = true) : canM m = true := by
  obtain ⟨c, ki, ks, tg, la, fa, su, sz, n, d0, d1, d2, d3, d4, d5, d6, co, sq, bl, sp, cr⟩ := m
  simp only at hc
  have : c = 1 ∨ c = 2 ∨ c = 3 ∨ c = 4 ∨ c = 5 ∨ c = 6 ∨ c = 7 ∨ c = 8 ∨ c = 9 ∨ c = 10 ∨ c = 11 ∨ c = 12 ∨ c = 13 ∨ c = 14 ∨ c = 15 ∨ c = 16 ∨ c = 17 := by omega
  rcases this with rfl | rfl | rfl | rfl | rfl | rfl | rfl | rfl | rfl | rfl | rfl | rfl | rfl | rfl | rfl | rfl | rfl
  all_goals cases fa <;> simp [canM, canE, rngM, rngE, keyB, inB] at h ⊢ <;> omega
theorem rng_st {m : Ms} (hc : 1 ≤ m.c ∧ m.c ≤ 17) (hk : canM m = true) : (stM m).1 = 0 ↔ rngM m = true := by
  have hr := head_rng hk hc
  have hw := wN_first hr.1 hr.2
  unfold stM stE
  rw [hw]
  generalize headE m.c m.tg m.la m.fa m.su m.sz m.n m.sp = x
  obtain ⟨c, ki, ks, tg, la, fa, su, sz, n, d0, d1, d2, d3, d4, d5, d6, co, sq, bl, sp, cr⟩ := m
  simp only at hc
  clear hr hw
  have : c = 1 ∨ c = 2 ∨ c = 3 ∨ c = 4 ∨ c = 5 ∨ c = 6 ∨ c = 7 ∨ c = 8 ∨ c = 9 ∨ c = 10 ∨ c = 11 ∨ c = 12 ∨ c = 13 ∨ c = 14 ∨ c = 15 ∨ c = 16 ∨ c = 17 := by omega
  rcases this with rfl | rfl | rfl | rfl | rfl | rfl | rfl | rfl | rfl | rfl | rfl | rfl | rfl | rfl | rfl | rfl | rfl
  all_goals cases fa <;> simp [canM, canE, rngM, rngE, keyB, restE, wK, wZ, wN_zero, wR_zero, fit2, fit3, fit4, inB] at hk ⊢ <;> (try split) <;> omega
theorem rng_put {m : Ms} (hc : 1 ≤ m.c ∧ m.c ≤ 17) : (putM m).2 = rngM m := by
  unfold putM
  by_cases hk : canM m = true
  · rw [if_pos hk]
    have := rng_st hc hk
    by_cases h : rngM m = true
    · rw [h]; simpa using this.2 h
    · have h2 : ¬ (stM m).1 = 0 := fun e => h (this.1 e)
      simp [h2, h]
  · rw [if_neg hk]
    by_cases h : rngM m = true
    · exact absurd (rng_can hc h) hk
    · simp [h]
end Go.Proofs.Ytoamgdcjmkkmfaa
