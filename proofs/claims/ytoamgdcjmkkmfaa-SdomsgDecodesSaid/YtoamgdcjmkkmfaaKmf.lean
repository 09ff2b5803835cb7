/- Numbers that were put are got; the line is the document's. -/
import Derived.Test.YtoamgdcjmkkmfaaKma
import Derived.Test.YtoamgdcjmkkmfaaKl2
import Derived.Test.YtoamgdcjmkkmfaaKmc
import Derived.Test.YtoamgdcjmkkmfaaKme0
namespace Go.Proofs.Ytoamgdcjmkkmfaa
open Go.RowKit
set_option linter.unusedSimpArgs false
set_option linter.unusedVariables false
set_option maxHeartbeats 4000000
theorem dataU_iff (n d0 d1 d2 d3 d4 d5 d6 : Int) : dataU n (dL d0 d1 d2 d3 d4 d5 d6) = true ↔ (n ≤ 0 → d0 = 0) ∧ (n ≤ 1 → d1 = 0) ∧ (n ≤ 2 → d2 = 0) ∧ (n ≤ 3 → d3 = 0) ∧ (n ≤ 4 → d4 = 0) ∧ (n ≤ 5 → d5 = 0) ∧ (n ≤ 6 → d6 = 0) := by
  simp [dataU, dL, List.range_succ, and_assoc]
  omega
theorem pq4 (n : Int) : putL 4 n = [n % 256, n / 256 % 256, n / 256 / 256 % 256, n / 256 / 256 / 256 % 256] := by
  rw [pl4, show n / 256 / 256 = n / 65536 by omega, show n / 65536 / 256 = n / 16777216 by omega]
theorem gs_true {z : Int} (h : 0 ≤ z ∧ z ≤ 4294967295) : gsN true 0 [z % 256, z / 256 % 256, z / 256 / 256 % 256, z / 256 / 256 / 256 % 256] = z := by
  show rnN 0 4 (z % 256 :: z / 256 % 256 :: z / 256 / 256 % 256 :: z / 256 / 256 / 256 % 256 :: []) = z
  rw [rn_u32 (by omega) (by omega) (by omega) (by omega)]
  omega
theorem gl_1fp (ki ks sz d0 d1 d2 d3 d4 d5 d6 : Int) (hki : 0 ≤ ki ∧ ki ≤ 65535) (hks : 0 ≤ ks ∧ ks ≤ 255) (hsz : -1 ≤ sz ∧ sz ≤ 4294967295) (hz : 0 < sz) (hdu : dataU 0 (dL d0 d1 d2 d3 d4 d5 d6) = true) : getM 1 (stM ⟨1, ki, ks, false, false, false, false, sz, 0, d0, d1, d2, d3, d4, d5, d6, 0, 0, 0, 0, 0⟩).2 = ⟨1, ki, ks, false, false, false, false, sz, 0, d0, d1, d2, d3, d4, d5, d6, 0, 0, 0, 0, 0⟩ ∧ lnA (setL (putR 4 (putR 1 (putR 2 [] 1 ki) 3 ks) 4 sz) 0 (headE 1 false false false false sz 0 0)) = lnA (stM ⟨1, ki, ks, false, false, false, false, sz, 0, d0, d1, d2, d3, d4, d5, d6, 0, 0, 0, 0, 0⟩).2 := by
  rw [dataU_iff] at hdu
  have f3 : fitB 3 ki = true := by rw [fit3]; simp [inB]; omega
  have f2 : fitB 2 ks = true := by rw [fit2]; simp [inB]; omega
  have hk : ki % 256 + 256 * (ki / 256 % 256) = ki := by omega
  have hs : ks % 256 = ks := by omega
  have f0 : fitB 4 0 = true := by decide
  have f4 : fitB 4 sz = true := by rw [fit4]; simp [inB]; omega
  simp at hdu
  obtain ⟨rfl, rfl, rfl, rfl, rfl, rfl, rfl⟩ := hdu
  have hd : headE 1 false false false false sz 0 0 = 33 := by simp [headE, begunE, bitN]; try omega
  have e : (stM ⟨1, ki, ks, false, false, false, false, sz, 0, 0, 0, 0, 0, 0, 0, 0, 0, 0, 0, 0, 0⟩).2 = [33, ki % 256, ki / 256 % 256, ks % 256, sz % 256, sz / 256 % 256, sz / 256 / 256 % 256, sz / 256 / 256 / 256 % 256] := by
    show (restE 1 ki ks false sz 0 (dL 0 0 0 0 0 0 0) 0 0 0 0 (wN 2 (headE 1 false false false false sz 0 0) (0, []))).2 = _
    rw [hd, wN_first (by omega) (by omega)]
    show (wZ sz (wK ki ks (0, [33]))).2 = _
    unfold wZ wK
    rw [if_neg (show ¬ sz = -1 by omega)]
    show ((wN 4 sz (wN 2 ks (wN 3 ki (0, [33]))))).2 = _
    rw [wN_yes f3, wN_yes f2, wN_yes f4]
    first | (simp only [pl2, pl3, pq4, List.cons_append, List.nil_append]; done) | (simp only [pl2, pl3, pq4, List.cons_append, List.nil_append]; rfl) | rfl
  rw [e, hd]
  refine ⟨?_, rfl⟩
  show (⟨1, ki % 256 + 256 * (ki / 256 % 256), ks % 256, false, false, false, false, gsN true 0 [sz % 256, sz / 256 % 256, sz / 256 / 256 % 256, sz / 256 / 256 / 256 % 256], 0, 0, 0, 0, 0, 0, 0, 0, 0, 0, 0, 0, 0⟩ : Ms) = _
  (rw [hk, hs, gs_true (by omega)])
theorem gl_1fz (ki ks sz d0 d1 d2 d3 d4 d5 d6 : Int) (hki : 0 ≤ ki ∧ ki ≤ 65535) (hks : 0 ≤ ks ∧ ks ≤ 255) (hsz : -1 ≤ sz ∧ sz ≤ 4294967295) (hz : ¬ 0 < sz) (hdu : dataU 0 (dL d0 d1 d2 d3 d4 d5 d6) = true) : getM 1 (stM ⟨1, ki, ks, false, false, false, false, sz, 0, d0, d1, d2, d3, d4, d5, d6, 0, 0, 0, 0, 0⟩).2 = ⟨1, ki, ks, false, false, false, false, sz, 0, d0, d1, d2, d3, d4, d5, d6, 0, 0, 0, 0, 0⟩ ∧ lnA (setL (putR 1 (putR 2 [] 1 ki) 3 ks) 0 (headE 1 false false false false sz 0 0)) = lnA (stM ⟨1, ki, ks, false, false, false, false, sz, 0, d0, d1, d2, d3, d4, d5, d6, 0, 0, 0, 0, 0⟩).2 := by
  rw [dataU_iff] at hdu
  have f3 : fitB 3 ki = true := by rw [fit3]; simp [inB]; omega
  have f2 : fitB 2 ks = true := by rw [fit2]; simp [inB]; omega
  have hk : ki % 256 + 256 * (ki / 256 % 256) = ki := by omega
  have hs : ks % 256 = ks := by omega
  have f0 : fitB 4 0 = true := by decide
  have hzz : sz = -1 ∨ sz = 0 := by omega
  rcases hzz with rfl | rfl
  · skip
    simp at hdu
    obtain ⟨rfl, rfl, rfl, rfl, rfl, rfl, rfl⟩ := hdu
    have hd : headE 1 false false false false (-1) 0 0 = 32 := rfl
    have e : (stM ⟨1, ki, ks, false, false, false, false, (-1), 0, 0, 0, 0, 0, 0, 0, 0, 0, 0, 0, 0, 0⟩).2 = [32, ki % 256, ki / 256 % 256, ks % 256, 0, 0, 0, 0] := by
      show (restE 1 ki ks false (-1) 0 (dL 0 0 0 0 0 0 0) 0 0 0 0 (wN 2 (headE 1 false false false false (-1) 0 0) (0, []))).2 = _
      rw [hd, wN_first (by omega) (by omega)]
      show ((wN 4 0 (wN 2 ks (wN 3 ki (0, [32]))))).2 = _
      rw [wN_yes f3, wN_yes f2, wN_yes f0]
      first | (simp only [pl2, pl3, pq4, List.cons_append, List.nil_append]; done) | (simp only [pl2, pl3, pq4, List.cons_append, List.nil_append]; rfl) | rfl
    rw [e, hd]
    refine ⟨?_, rfl⟩
    show (⟨1, ki % 256 + 256 * (ki / 256 % 256), ks % 256, false, false, false, false, -1, 0, 0, 0, 0, 0, 0, 0, 0, 0, 0, 0, 0, 0⟩ : Ms) = _
    (rw [hk, hs])
  · skip
    simp at hdu
    obtain ⟨rfl, rfl, rfl, rfl, rfl, rfl, rfl⟩ := hdu
    have hd : headE 1 false false false false 0 0 0 = 33 := rfl
    have e : (stM ⟨1, ki, ks, false, false, false, false, 0, 0, 0, 0, 0, 0, 0, 0, 0, 0, 0, 0, 0, 0⟩).2 = [33, ki % 256, ki / 256 % 256, ks % 256, 0, 0, 0, 0] := by
      show (restE 1 ki ks false 0 0 (dL 0 0 0 0 0 0 0) 0 0 0 0 (wN 2 (headE 1 false false false false 0 0 0) (0, []))).2 = _
      rw [hd, wN_first (by omega) (by omega)]
      show ((wN 4 0 (wN 2 ks (wN 3 ki (0, [33]))))).2 = _
      rw [wN_yes f3, wN_yes f2, wN_yes f0]
      first | (simp only [pl2, pl3, pq4, List.cons_append, List.nil_append]; done) | (simp only [pl2, pl3, pq4, List.cons_append, List.nil_append]; rfl) | rfl
    rw [e, hd]
    refine ⟨?_, rfl⟩
    show (⟨1, ki % 256 + 256 * (ki / 256 % 256), ks % 256, false, false, false, false, gsN true 0 [(0 : Int) % 256, (0 : Int) / 256 % 256, (0 : Int) / 256 / 256 % 256, (0 : Int) / 256 / 256 / 256 % 256], 0, 0, 0, 0, 0, 0, 0, 0, 0, 0, 0, 0, 0⟩ : Ms) = _
    (rw [hk, hs, gs_true (by omega)])
theorem gl_1t (ki ks n d0 d1 d2 d3 d4 d5 d6 : Int) (hki : 0 ≤ ki ∧ ki ≤ 65535) (hks : 0 ≤ ks ∧ ks ≤ 255) (hn : 1 ≤ n ∧ n ≤ 4) (hdu : dataU n (dL d0 d1 d2 d3 d4 d5 d6) = true) : getM 1 (stM ⟨1, ki, ks, false, false, true, false, 0, n, d0, d1, d2, d3, d4, d5, d6, 0, 0, 0, 0, 0⟩).2 = ⟨1, ki, ks, false, false, true, false, 0, n, d0, d1, d2, d3, d4, d5, d6, 0, 0, 0, 0, 0⟩ ∧ lnA (setL (putD n.toNat (dL d0 d1 d2 d3 d4 d5 d6) 4 (putR 1 (putR 2 [] 1 ki) 3 ks)) 0 (headE 1 false false true false 0 n 0)) = lnA (stM ⟨1, ki, ks, false, false, true, false, 0, n, d0, d1, d2, d3, d4, d5, d6, 0, 0, 0, 0, 0⟩).2 := by
  rw [dataU_iff] at hdu
  have f3 : fitB 3 ki = true := by rw [fit3]; simp [inB]; omega
  have f2 : fitB 2 ks = true := by rw [fit2]; simp [inB]; omega
  have hk : ki % 256 + 256 * (ki / 256 % 256) = ki := by omega
  have hs : ks % 256 = ks := by omega
  have hnn : n = 1 ∨ n = 2 ∨ n = 3 ∨ n = 4 := by omega
  rcases hnn with rfl | rfl | rfl | rfl
  · skip
    simp at hdu
    obtain ⟨rfl, rfl, rfl, rfl, rfl, rfl⟩ := hdu
    have hd : headE 1 false false true false 0 1 0 = 47 := rfl
    have e : (stM ⟨1, ki, ks, false, false, true, false, 0, 1, d0, 0, 0, 0, 0, 0, 0, 0, 0, 0, 0, 0⟩).2 = [47, ki % 256, ki / 256 % 256, ks % 256, d0] := by
      show (restE 1 ki ks true 0 1 (dL d0 0 0 0 0 0 0) 0 0 0 0 (wN 2 (headE 1 false false true false 0 1 0) (0, []))).2 = _
      rw [hd, wN_first (by omega) (by omega)]
      show ((wR (List.take (1 : Int).toNat (dL d0 0 0 0 0 0 0)) (wN 2 ks (wN 3 ki (0, [47]))))).2 = _
      rw [wN_yes f3, wN_yes f2, wR_yes]
      first | (simp only [pl2, pl3, pq4, List.cons_append, List.nil_append]; done) | (simp only [pl2, pl3, pq4, List.cons_append, List.nil_append]; rfl) | rfl
    rw [e, hd]
    refine ⟨?_, rfl⟩
    show (⟨1, ki % 256 + 256 * (ki / 256 % 256), ks % 256, false, false, true, false, 0, 1, d0, 0, 0, 0, 0, 0, 0, 0, 0, 0, 0, 0⟩ : Ms) = _
    (rw [hk, hs])
  · skip
    simp at hdu
    obtain ⟨rfl, rfl, rfl, rfl, rfl⟩ := hdu
    have hd : headE 1 false false true false 0 2 0 = 43 := rfl
    have e : (stM ⟨1, ki, ks, false, false, true, false, 0, 2, d0, d1, 0, 0, 0, 0, 0, 0, 0, 0, 0, 0⟩).2 = [43, ki % 256, ki / 256 % 256, ks % 256, d0, d1] := by
      show (restE 1 ki ks true 0 2 (dL d0 d1 0 0 0 0 0) 0 0 0 0 (wN 2 (headE 1 false false true false 0 2 0) (0, []))).2 = _
      rw [hd, wN_first (by omega) (by omega)]
      show ((wR (List.take (2 : Int).toNat (dL d0 d1 0 0 0 0 0)) (wN 2 ks (wN 3 ki (0, [43]))))).2 = _
      rw [wN_yes f3, wN_yes f2, wR_yes]
      first | (simp only [pl2, pl3, pq4, List.cons_append, List.nil_append]; done) | (simp only [pl2, pl3, pq4, List.cons_append, List.nil_append]; rfl) | rfl
    rw [e, hd]
    refine ⟨?_, rfl⟩
    show (⟨1, ki % 256 + 256 * (ki / 256 % 256), ks % 256, false, false, true, false, 0, 2, d0, d1, 0, 0, 0, 0, 0, 0, 0, 0, 0, 0⟩ : Ms) = _
    (rw [hk, hs])
  · skip
    simp at hdu
    obtain ⟨rfl, rfl, rfl, rfl⟩ := hdu
    have hd : headE 1 false false true false 0 3 0 = 39 := rfl
    have e : (stM ⟨1, ki, ks, false, false, true, false, 0, 3, d0, d1, d2, 0, 0, 0, 0, 0, 0, 0, 0, 0⟩).2 = [39, ki % 256, ki / 256 % 256, ks % 256, d0, d1, d2] := by
      show (restE 1 ki ks true 0 3 (dL d0 d1 d2 0 0 0 0) 0 0 0 0 (wN 2 (headE 1 false false true false 0 3 0) (0, []))).2 = _
      rw [hd, wN_first (by omega) (by omega)]
      show ((wR (List.take (3 : Int).toNat (dL d0 d1 d2 0 0 0 0)) (wN 2 ks (wN 3 ki (0, [39]))))).2 = _
      rw [wN_yes f3, wN_yes f2, wR_yes]
      first | (simp only [pl2, pl3, pq4, List.cons_append, List.nil_append]; done) | (simp only [pl2, pl3, pq4, List.cons_append, List.nil_append]; rfl) | rfl
    rw [e, hd]
    refine ⟨?_, rfl⟩
    show (⟨1, ki % 256 + 256 * (ki / 256 % 256), ks % 256, false, false, true, false, 0, 3, d0, d1, d2, 0, 0, 0, 0, 0, 0, 0, 0, 0⟩ : Ms) = _
    (rw [hk, hs])
  · skip
    simp at hdu
    obtain ⟨rfl, rfl, rfl⟩ := hdu
    have hd : headE 1 false false true false 0 4 0 = 35 := rfl
    have e : (stM ⟨1, ki, ks, false, false, true, false, 0, 4, d0, d1, d2, d3, 0, 0, 0, 0, 0, 0, 0, 0⟩).2 = [35, ki % 256, ki / 256 % 256, ks % 256, d0, d1, d2, d3] := by
      show (restE 1 ki ks true 0 4 (dL d0 d1 d2 d3 0 0 0) 0 0 0 0 (wN 2 (headE 1 false false true false 0 4 0) (0, []))).2 = _
      rw [hd, wN_first (by omega) (by omega)]
      show ((wR (List.take (4 : Int).toNat (dL d0 d1 d2 d3 0 0 0)) (wN 2 ks (wN 3 ki (0, [35]))))).2 = _
      rw [wN_yes f3, wN_yes f2, wR_yes]
      first | (simp only [pl2, pl3, pq4, List.cons_append, List.nil_append]; done) | (simp only [pl2, pl3, pq4, List.cons_append, List.nil_append]; rfl) | rfl
    rw [e, hd]
    refine ⟨?_, rfl⟩
    show (⟨1, ki % 256 + 256 * (ki / 256 % 256), ks % 256, false, false, true, false, 0, 4, d0, d1, d2, d3, 0, 0, 0, 0, 0, 0, 0, 0⟩ : Ms) = _
    (rw [hk, hs])
theorem gl_2 (n d0 d1 d2 d3 d4 d5 d6 : Int) (tg la : Bool) (hn : 0 ≤ n ∧ n ≤ 7) (hdu : dataU n (dL d0 d1 d2 d3 d4 d5 d6) = true) : getM 2 (stM ⟨2, 0, 0, tg, la, false, false, 0, n, d0, d1, d2, d3, d4, d5, d6, 0, 0, 0, 0, 0⟩).2 = ⟨2, 0, 0, tg, la, false, false, 0, n, d0, d1, d2, d3, d4, d5, d6, 0, 0, 0, 0, 0⟩ ∧ lnA (setL (putD n.toNat (dL d0 d1 d2 d3 d4 d5 d6) 1 []) 0 (headE 2 tg la false false 0 n 0)) = lnA (stM ⟨2, 0, 0, tg, la, false, false, 0, n, d0, d1, d2, d3, d4, d5, d6, 0, 0, 0, 0, 0⟩).2 := by
  rw [dataU_iff] at hdu
  cases tg
  · skip
    cases la
    · skip
      have hnn : n = 0 ∨ n = 1 ∨ n = 2 ∨ n = 3 ∨ n = 4 ∨ n = 5 ∨ n = 6 ∨ n = 7 := by omega
      rcases hnn with rfl | rfl | rfl | rfl | rfl | rfl | rfl | rfl
      · skip
        simp at hdu
        obtain ⟨rfl, rfl, rfl, rfl, rfl, rfl, rfl⟩ := hdu
        exact ⟨rfl, rfl⟩
      · skip
        simp at hdu
        obtain ⟨rfl, rfl, rfl, rfl, rfl, rfl⟩ := hdu
        exact ⟨rfl, rfl⟩
      · skip
        simp at hdu
        obtain ⟨rfl, rfl, rfl, rfl, rfl⟩ := hdu
        exact ⟨rfl, rfl⟩
      · skip
        simp at hdu
        obtain ⟨rfl, rfl, rfl, rfl⟩ := hdu
        exact ⟨rfl, rfl⟩
      · skip
        simp at hdu
        obtain ⟨rfl, rfl, rfl⟩ := hdu
        exact ⟨rfl, rfl⟩
      · skip
        simp at hdu
        obtain ⟨rfl, rfl⟩ := hdu
        exact ⟨rfl, rfl⟩
      · skip
        simp at hdu
        subst hdu
        exact ⟨rfl, rfl⟩
      · skip
        clear hdu
        exact ⟨rfl, rfl⟩
    · skip
      have hnn : n = 0 ∨ n = 1 ∨ n = 2 ∨ n = 3 ∨ n = 4 ∨ n = 5 ∨ n = 6 ∨ n = 7 := by omega
      rcases hnn with rfl | rfl | rfl | rfl | rfl | rfl | rfl | rfl
      · skip
        simp at hdu
        obtain ⟨rfl, rfl, rfl, rfl, rfl, rfl, rfl⟩ := hdu
        exact ⟨rfl, rfl⟩
      · skip
        simp at hdu
        obtain ⟨rfl, rfl, rfl, rfl, rfl, rfl⟩ := hdu
        exact ⟨rfl, rfl⟩
      · skip
        simp at hdu
        obtain ⟨rfl, rfl, rfl, rfl, rfl⟩ := hdu
        exact ⟨rfl, rfl⟩
      · skip
        simp at hdu
        obtain ⟨rfl, rfl, rfl, rfl⟩ := hdu
        exact ⟨rfl, rfl⟩
      · skip
        simp at hdu
        obtain ⟨rfl, rfl, rfl⟩ := hdu
        exact ⟨rfl, rfl⟩
      · skip
        simp at hdu
        obtain ⟨rfl, rfl⟩ := hdu
        exact ⟨rfl, rfl⟩
      · skip
        simp at hdu
        subst hdu
        exact ⟨rfl, rfl⟩
      · skip
        clear hdu
        exact ⟨rfl, rfl⟩
  · skip
    cases la
    · skip
      have hnn : n = 0 ∨ n = 1 ∨ n = 2 ∨ n = 3 ∨ n = 4 ∨ n = 5 ∨ n = 6 ∨ n = 7 := by omega
      rcases hnn with rfl | rfl | rfl | rfl | rfl | rfl | rfl | rfl
      · skip
        simp at hdu
        obtain ⟨rfl, rfl, rfl, rfl, rfl, rfl, rfl⟩ := hdu
        exact ⟨rfl, rfl⟩
      · skip
        simp at hdu
        obtain ⟨rfl, rfl, rfl, rfl, rfl, rfl⟩ := hdu
        exact ⟨rfl, rfl⟩
      · skip
        simp at hdu
        obtain ⟨rfl, rfl, rfl, rfl, rfl⟩ := hdu
        exact ⟨rfl, rfl⟩
      · skip
        simp at hdu
        obtain ⟨rfl, rfl, rfl, rfl⟩ := hdu
        exact ⟨rfl, rfl⟩
      · skip
        simp at hdu
        obtain ⟨rfl, rfl, rfl⟩ := hdu
        exact ⟨rfl, rfl⟩
      · skip
        simp at hdu
        obtain ⟨rfl, rfl⟩ := hdu
        exact ⟨rfl, rfl⟩
      · skip
        simp at hdu
        subst hdu
        exact ⟨rfl, rfl⟩
      · skip
        clear hdu
        exact ⟨rfl, rfl⟩
    · skip
      have hnn : n = 0 ∨ n = 1 ∨ n = 2 ∨ n = 3 ∨ n = 4 ∨ n = 5 ∨ n = 6 ∨ n = 7 := by omega
      rcases hnn with rfl | rfl | rfl | rfl | rfl | rfl | rfl | rfl
      · skip
        simp at hdu
        obtain ⟨rfl, rfl, rfl, rfl, rfl, rfl, rfl⟩ := hdu
        exact ⟨rfl, rfl⟩
      · skip
        simp at hdu
        obtain ⟨rfl, rfl, rfl, rfl, rfl, rfl⟩ := hdu
        exact ⟨rfl, rfl⟩
      · skip
        simp at hdu
        obtain ⟨rfl, rfl, rfl, rfl, rfl⟩ := hdu
        exact ⟨rfl, rfl⟩
      · skip
        simp at hdu
        obtain ⟨rfl, rfl, rfl, rfl⟩ := hdu
        exact ⟨rfl, rfl⟩
      · skip
        simp at hdu
        obtain ⟨rfl, rfl, rfl⟩ := hdu
        exact ⟨rfl, rfl⟩
      · skip
        simp at hdu
        obtain ⟨rfl, rfl⟩ := hdu
        exact ⟨rfl, rfl⟩
      · skip
        simp at hdu
        subst hdu
        exact ⟨rfl, rfl⟩
      · skip
        clear hdu
        exact ⟨rfl, rfl⟩
theorem gl_3 (ki ks d0 d1 d2 d3 d4 d5 d6 : Int) (hki : 0 ≤ ki ∧ ki ≤ 65535) (hks : 0 ≤ ks ∧ ks ≤ 255) (hdu : dataU 0 (dL d0 d1 d2 d3 d4 d5 d6) = true) : getM 3 (stM ⟨3, ki, ks, false, false, false, false, 0, 0, d0, d1, d2, d3, d4, d5, d6, 0, 0, 0, 0, 0⟩).2 = ⟨3, ki, ks, false, false, false, false, 0, 0, d0, d1, d2, d3, d4, d5, d6, 0, 0, 0, 0, 0⟩ ∧ lnA (setL (putR 1 (putR 2 [] 1 ki) 3 ks) 0 (headE 3 false false false false 0 0 0)) = lnA (stM ⟨3, ki, ks, false, false, false, false, 0, 0, d0, d1, d2, d3, d4, d5, d6, 0, 0, 0, 0, 0⟩).2 := by
  rw [dataU_iff] at hdu
  have f3 : fitB 3 ki = true := by rw [fit3]; simp [inB]; omega
  have f2 : fitB 2 ks = true := by rw [fit2]; simp [inB]; omega
  have hk : ki % 256 + 256 * (ki / 256 % 256) = ki := by omega
  have hs : ks % 256 = ks := by omega
  simp at hdu
  obtain ⟨rfl, rfl, rfl, rfl, rfl, rfl, rfl⟩ := hdu
  have hd : headE 3 false false false false 0 0 0 = 64 := rfl
  have e : (stM ⟨3, ki, ks, false, false, false, false, 0, 0, 0, 0, 0, 0, 0, 0, 0, 0, 0, 0, 0, 0⟩).2 = [64, ki % 256, ki / 256 % 256, ks % 256] := by
    show (restE 3 ki ks false 0 0 (dL 0 0 0 0 0 0 0) 0 0 0 0 (wN 2 (headE 3 false false false false 0 0 0) (0, []))).2 = _
    rw [hd, wN_first (by omega) (by omega)]
    show ((wN 2 ks (wN 3 ki (0, [64])))).2 = _
    rw [wN_yes f3, wN_yes f2]
    first | (simp only [pl2, pl3, pq4, List.cons_append, List.nil_append]; done) | (simp only [pl2, pl3, pq4, List.cons_append, List.nil_append]; rfl) | rfl
  rw [e, hd]
  refine ⟨?_, rfl⟩
  show (⟨3, ki % 256 + 256 * (ki / 256 % 256), ks % 256, false, false, false, false, 0, 0, 0, 0, 0, 0, 0, 0, 0, 0, 0, 0, 0, 0⟩ : Ms) = _
  (rw [hk, hs])
theorem gl_4 (d0 d1 d2 d3 d4 d5 d6 : Int) (tg : Bool)  (hdu : dataU 0 (dL d0 d1 d2 d3 d4 d5 d6) = true) : getM 4 (stM ⟨4, 0, 0, tg, false, false, false, 0, 0, d0, d1, d2, d3, d4, d5, d6, 0, 0, 0, 0, 0⟩).2 = ⟨4, 0, 0, tg, false, false, false, 0, 0, d0, d1, d2, d3, d4, d5, d6, 0, 0, 0, 0, 0⟩ ∧ lnA (setL [] 0 (headE 4 tg false false false 0 0 0)) = lnA (stM ⟨4, 0, 0, tg, false, false, false, 0, 0, d0, d1, d2, d3, d4, d5, d6, 0, 0, 0, 0, 0⟩).2 := by
  rw [dataU_iff] at hdu
  cases tg
  · skip
    simp at hdu
    obtain ⟨rfl, rfl, rfl, rfl, rfl, rfl, rfl⟩ := hdu
    exact ⟨rfl, rfl⟩
  · skip
    simp at hdu
    obtain ⟨rfl, rfl, rfl, rfl, rfl, rfl, rfl⟩ := hdu
    exact ⟨rfl, rfl⟩
theorem gl_5p (ki ks sz d0 d1 d2 d3 d4 d5 d6 : Int) (su : Bool) (hki : 0 ≤ ki ∧ ki ≤ 65535) (hks : 0 ≤ ks ∧ ks ≤ 255) (hsz : -1 ≤ sz ∧ sz ≤ 4294967295) (hz : 0 < sz) (hdu : dataU 0 (dL d0 d1 d2 d3 d4 d5 d6) = true) : getM 5 (stM ⟨5, ki, ks, false, false, false, su, sz, 0, d0, d1, d2, d3, d4, d5, d6, 0, 0, 0, 0, 0⟩).2 = ⟨5, ki, ks, false, false, false, su, sz, 0, d0, d1, d2, d3, d4, d5, d6, 0, 0, 0, 0, 0⟩ ∧ lnA (setL (putR 4 (putR 1 (putR 2 [] 1 ki) 3 ks) 4 sz) 0 (headE 5 false false false su sz 0 0)) = lnA (stM ⟨5, ki, ks, false, false, false, su, sz, 0, d0, d1, d2, d3, d4, d5, d6, 0, 0, 0, 0, 0⟩).2 := by
  rw [dataU_iff] at hdu
  have f3 : fitB 3 ki = true := by rw [fit3]; simp [inB]; omega
  have f2 : fitB 2 ks = true := by rw [fit2]; simp [inB]; omega
  have hk : ki % 256 + 256 * (ki / 256 % 256) = ki := by omega
  have hs : ks % 256 = ks := by omega
  have f0 : fitB 4 0 = true := by decide
  have f4 : fitB 4 sz = true := by rw [fit4]; simp [inB]; omega
  cases su
  · skip
    simp at hdu
    obtain ⟨rfl, rfl, rfl, rfl, rfl, rfl, rfl⟩ := hdu
    have hd : headE 5 false false false false sz 0 0 = 194 := by simp [headE, begunE, bitN]; try omega
    have e : (stM ⟨5, ki, ks, false, false, false, false, sz, 0, 0, 0, 0, 0, 0, 0, 0, 0, 0, 0, 0, 0⟩).2 = [194, ki % 256, ki / 256 % 256, ks % 256, sz % 256, sz / 256 % 256, sz / 256 / 256 % 256, sz / 256 / 256 / 256 % 256] := by
      show (restE 5 ki ks false sz 0 (dL 0 0 0 0 0 0 0) 0 0 0 0 (wN 2 (headE 5 false false false false sz 0 0) (0, []))).2 = _
      rw [hd, wN_first (by omega) (by omega)]
      show (wZ sz (wK ki ks (0, [194]))).2 = _
      unfold wZ wK
      rw [if_neg (show ¬ sz = -1 by omega)]
      show ((wN 4 sz (wN 2 ks (wN 3 ki (0, [194]))))).2 = _
      rw [wN_yes f3, wN_yes f2, wN_yes f4]
      first | (simp only [pl2, pl3, pq4, List.cons_append, List.nil_append]; done) | (simp only [pl2, pl3, pq4, List.cons_append, List.nil_append]; rfl) | rfl
    rw [e, hd]
    refine ⟨?_, rfl⟩
    show (⟨5, ki % 256 + 256 * (ki / 256 % 256), ks % 256, false, false, false, false, gsN true 0 [sz % 256, sz / 256 % 256, sz / 256 / 256 % 256, sz / 256 / 256 / 256 % 256], 0, 0, 0, 0, 0, 0, 0, 0, 0, 0, 0, 0, 0⟩ : Ms) = _
    (rw [hk, hs, gs_true (by omega)])
  · skip
    simp at hdu
    obtain ⟨rfl, rfl, rfl, rfl, rfl, rfl, rfl⟩ := hdu
    have hd : headE 5 false false false true sz 0 0 = 198 := by simp [headE, begunE, bitN]; try omega
    have e : (stM ⟨5, ki, ks, false, false, false, true, sz, 0, 0, 0, 0, 0, 0, 0, 0, 0, 0, 0, 0, 0⟩).2 = [198, ki % 256, ki / 256 % 256, ks % 256, sz % 256, sz / 256 % 256, sz / 256 / 256 % 256, sz / 256 / 256 / 256 % 256] := by
      show (restE 5 ki ks false sz 0 (dL 0 0 0 0 0 0 0) 0 0 0 0 (wN 2 (headE 5 false false false true sz 0 0) (0, []))).2 = _
      rw [hd, wN_first (by omega) (by omega)]
      show (wZ sz (wK ki ks (0, [198]))).2 = _
      unfold wZ wK
      rw [if_neg (show ¬ sz = -1 by omega)]
      show ((wN 4 sz (wN 2 ks (wN 3 ki (0, [198]))))).2 = _
      rw [wN_yes f3, wN_yes f2, wN_yes f4]
      first | (simp only [pl2, pl3, pq4, List.cons_append, List.nil_append]; done) | (simp only [pl2, pl3, pq4, List.cons_append, List.nil_append]; rfl) | rfl
    rw [e, hd]
    refine ⟨?_, rfl⟩
    show (⟨5, ki % 256 + 256 * (ki / 256 % 256), ks % 256, false, false, false, true, gsN true 0 [sz % 256, sz / 256 % 256, sz / 256 / 256 % 256, sz / 256 / 256 / 256 % 256], 0, 0, 0, 0, 0, 0, 0, 0, 0, 0, 0, 0, 0⟩ : Ms) = _
    (rw [hk, hs, gs_true (by omega)])
theorem gl_5z (ki ks sz d0 d1 d2 d3 d4 d5 d6 : Int) (su : Bool) (hki : 0 ≤ ki ∧ ki ≤ 65535) (hks : 0 ≤ ks ∧ ks ≤ 255) (hsz : -1 ≤ sz ∧ sz ≤ 4294967295) (hz : ¬ 0 < sz) (hdu : dataU 0 (dL d0 d1 d2 d3 d4 d5 d6) = true) : getM 5 (stM ⟨5, ki, ks, false, false, false, su, sz, 0, d0, d1, d2, d3, d4, d5, d6, 0, 0, 0, 0, 0⟩).2 = ⟨5, ki, ks, false, false, false, su, sz, 0, d0, d1, d2, d3, d4, d5, d6, 0, 0, 0, 0, 0⟩ ∧ lnA (setL (putR 1 (putR 2 [] 1 ki) 3 ks) 0 (headE 5 false false false su sz 0 0)) = lnA (stM ⟨5, ki, ks, false, false, false, su, sz, 0, d0, d1, d2, d3, d4, d5, d6, 0, 0, 0, 0, 0⟩).2 := by
  rw [dataU_iff] at hdu
  have f3 : fitB 3 ki = true := by rw [fit3]; simp [inB]; omega
  have f2 : fitB 2 ks = true := by rw [fit2]; simp [inB]; omega
  have hk : ki % 256 + 256 * (ki / 256 % 256) = ki := by omega
  have hs : ks % 256 = ks := by omega
  have f0 : fitB 4 0 = true := by decide
  cases su
  · skip
    have hzz : sz = -1 ∨ sz = 0 := by omega
    rcases hzz with rfl | rfl
    · skip
      simp at hdu
      obtain ⟨rfl, rfl, rfl, rfl, rfl, rfl, rfl⟩ := hdu
      have hd : headE 5 false false false false (-1) 0 0 = 192 := rfl
      have e : (stM ⟨5, ki, ks, false, false, false, false, (-1), 0, 0, 0, 0, 0, 0, 0, 0, 0, 0, 0, 0, 0⟩).2 = [192, ki % 256, ki / 256 % 256, ks % 256, 0, 0, 0, 0] := by
        show (restE 5 ki ks false (-1) 0 (dL 0 0 0 0 0 0 0) 0 0 0 0 (wN 2 (headE 5 false false false false (-1) 0 0) (0, []))).2 = _
        rw [hd, wN_first (by omega) (by omega)]
        show ((wN 4 0 (wN 2 ks (wN 3 ki (0, [192]))))).2 = _
        rw [wN_yes f3, wN_yes f2, wN_yes f0]
        first | (simp only [pl2, pl3, pq4, List.cons_append, List.nil_append]; done) | (simp only [pl2, pl3, pq4, List.cons_append, List.nil_append]; rfl) | rfl
      rw [e, hd]
      refine ⟨?_, rfl⟩
      show (⟨5, ki % 256 + 256 * (ki / 256 % 256), ks % 256, false, false, false, false, -1, 0, 0, 0, 0, 0, 0, 0, 0, 0, 0, 0, 0, 0⟩ : Ms) = _
      (rw [hk, hs])
    · skip
      simp at hdu
      obtain ⟨rfl, rfl, rfl, rfl, rfl, rfl, rfl⟩ := hdu
      have hd : headE 5 false false false false 0 0 0 = 194 := rfl
      have e : (stM ⟨5, ki, ks, false, false, false, false, 0, 0, 0, 0, 0, 0, 0, 0, 0, 0, 0, 0, 0, 0⟩).2 = [194, ki % 256, ki / 256 % 256, ks % 256, 0, 0, 0, 0] := by
        show (restE 5 ki ks false 0 0 (dL 0 0 0 0 0 0 0) 0 0 0 0 (wN 2 (headE 5 false false false false 0 0 0) (0, []))).2 = _
        rw [hd, wN_first (by omega) (by omega)]
        show ((wN 4 0 (wN 2 ks (wN 3 ki (0, [194]))))).2 = _
        rw [wN_yes f3, wN_yes f2, wN_yes f0]
        first | (simp only [pl2, pl3, pq4, List.cons_append, List.nil_append]; done) | (simp only [pl2, pl3, pq4, List.cons_append, List.nil_append]; rfl) | rfl
      rw [e, hd]
      refine ⟨?_, rfl⟩
      show (⟨5, ki % 256 + 256 * (ki / 256 % 256), ks % 256, false, false, false, false, gsN true 0 [(0 : Int) % 256, (0 : Int) / 256 % 256, (0 : Int) / 256 / 256 % 256, (0 : Int) / 256 / 256 / 256 % 256], 0, 0, 0, 0, 0, 0, 0, 0, 0, 0, 0, 0, 0⟩ : Ms) = _
      (rw [hk, hs, gs_true (by omega)])
  · skip
    have hzz : sz = -1 ∨ sz = 0 := by omega
    rcases hzz with rfl | rfl
    · skip
      simp at hdu
      obtain ⟨rfl, rfl, rfl, rfl, rfl, rfl, rfl⟩ := hdu
      have hd : headE 5 false false false true (-1) 0 0 = 196 := rfl
      have e : (stM ⟨5, ki, ks, false, false, false, true, (-1), 0, 0, 0, 0, 0, 0, 0, 0, 0, 0, 0, 0, 0⟩).2 = [196, ki % 256, ki / 256 % 256, ks % 256, 0, 0, 0, 0] := by
        show (restE 5 ki ks false (-1) 0 (dL 0 0 0 0 0 0 0) 0 0 0 0 (wN 2 (headE 5 false false false true (-1) 0 0) (0, []))).2 = _
        rw [hd, wN_first (by omega) (by omega)]
        show ((wN 4 0 (wN 2 ks (wN 3 ki (0, [196]))))).2 = _
        rw [wN_yes f3, wN_yes f2, wN_yes f0]
        first | (simp only [pl2, pl3, pq4, List.cons_append, List.nil_append]; done) | (simp only [pl2, pl3, pq4, List.cons_append, List.nil_append]; rfl) | rfl
      rw [e, hd]
      refine ⟨?_, rfl⟩
      show (⟨5, ki % 256 + 256 * (ki / 256 % 256), ks % 256, false, false, false, true, -1, 0, 0, 0, 0, 0, 0, 0, 0, 0, 0, 0, 0, 0⟩ : Ms) = _
      (rw [hk, hs])
    · skip
      simp at hdu
      obtain ⟨rfl, rfl, rfl, rfl, rfl, rfl, rfl⟩ := hdu
      have hd : headE 5 false false false true 0 0 0 = 198 := rfl
      have e : (stM ⟨5, ki, ks, false, false, false, true, 0, 0, 0, 0, 0, 0, 0, 0, 0, 0, 0, 0, 0, 0⟩).2 = [198, ki % 256, ki / 256 % 256, ks % 256, 0, 0, 0, 0] := by
        show (restE 5 ki ks false 0 0 (dL 0 0 0 0 0 0 0) 0 0 0 0 (wN 2 (headE 5 false false false true 0 0 0) (0, []))).2 = _
        rw [hd, wN_first (by omega) (by omega)]
        show ((wN 4 0 (wN 2 ks (wN 3 ki (0, [198]))))).2 = _
        rw [wN_yes f3, wN_yes f2, wN_yes f0]
        first | (simp only [pl2, pl3, pq4, List.cons_append, List.nil_append]; done) | (simp only [pl2, pl3, pq4, List.cons_append, List.nil_append]; rfl) | rfl
      rw [e, hd]
      refine ⟨?_, rfl⟩
      show (⟨5, ki % 256 + 256 * (ki / 256 % 256), ks % 256, false, false, false, true, gsN true 0 [(0 : Int) % 256, (0 : Int) / 256 % 256, (0 : Int) / 256 / 256 % 256, (0 : Int) / 256 / 256 / 256 % 256], 0, 0, 0, 0, 0, 0, 0, 0, 0, 0, 0, 0, 0⟩ : Ms) = _
      (rw [hk, hs, gs_true (by omega)])
theorem gl_6 (ki ks bl d0 d1 d2 d3 d4 d5 d6 : Int) (su : Bool) (hki : 0 ≤ ki ∧ ki ≤ 65535) (hks : 0 ≤ ks ∧ ks ≤ 255) (hbl : 1 ≤ bl ∧ bl ≤ 127) (hdu : dataU 0 (dL d0 d1 d2 d3 d4 d5 d6) = true) : getM 6 (stM ⟨6, ki, ks, false, false, false, su, 0, 0, d0, d1, d2, d3, d4, d5, d6, 0, 0, bl, 0, 0⟩).2 = ⟨6, ki, ks, false, false, false, su, 0, 0, d0, d1, d2, d3, d4, d5, d6, 0, 0, bl, 0, 0⟩ ∧ lnA (setL (putR 1 (putR 1 (putR 2 [] 1 ki) 3 ks) 4 bl) 0 (headE 6 false false false su 0 0 0)) = lnA (stM ⟨6, ki, ks, false, false, false, su, 0, 0, d0, d1, d2, d3, d4, d5, d6, 0, 0, bl, 0, 0⟩).2 := by
  rw [dataU_iff] at hdu
  have f3 : fitB 3 ki = true := by rw [fit3]; simp [inB]; omega
  have f2 : fitB 2 ks = true := by rw [fit2]; simp [inB]; omega
  have hk : ki % 256 + 256 * (ki / 256 % 256) = ki := by omega
  have hs : ks % 256 = ks := by omega
  have fb : fitB 2 bl = true := by rw [fit2]; simp [inB]; omega
  have hb : bl % 256 = bl := by omega
  cases su
  · skip
    simp at hdu
    obtain ⟨rfl, rfl, rfl, rfl, rfl, rfl, rfl⟩ := hdu
    have hd : headE 6 false false false false 0 0 0 = 160 := rfl
    have e : (stM ⟨6, ki, ks, false, false, false, false, 0, 0, 0, 0, 0, 0, 0, 0, 0, 0, 0, bl, 0, 0⟩).2 = [160, ki % 256, ki / 256 % 256, ks % 256, bl % 256] := by
      show (restE 6 ki ks false 0 0 (dL 0 0 0 0 0 0 0) 0 0 bl 0 (wN 2 (headE 6 false false false false 0 0 0) (0, []))).2 = _
      rw [hd, wN_first (by omega) (by omega)]
      show ((wN 2 bl (wN 2 ks (wN 3 ki (0, [160]))))).2 = _
      rw [wN_yes f3, wN_yes f2, wN_yes fb]
      first | (simp only [pl2, pl3, pq4, List.cons_append, List.nil_append]; done) | (simp only [pl2, pl3, pq4, List.cons_append, List.nil_append]; rfl) | rfl
    rw [e, hd]
    refine ⟨?_, rfl⟩
    show (⟨6, ki % 256 + 256 * (ki / 256 % 256), ks % 256, false, false, false, false, 0, 0, 0, 0, 0, 0, 0, 0, 0, 0, 0, bl % 256, 0, 0⟩ : Ms) = _
    (rw [hk, hs, hb])
  · skip
    simp at hdu
    obtain ⟨rfl, rfl, rfl, rfl, rfl, rfl, rfl⟩ := hdu
    have hd : headE 6 false false false true 0 0 0 = 164 := rfl
    have e : (stM ⟨6, ki, ks, false, false, false, true, 0, 0, 0, 0, 0, 0, 0, 0, 0, 0, 0, bl, 0, 0⟩).2 = [164, ki % 256, ki / 256 % 256, ks % 256, bl % 256] := by
      show (restE 6 ki ks false 0 0 (dL 0 0 0 0 0 0 0) 0 0 bl 0 (wN 2 (headE 6 false false false true 0 0 0) (0, []))).2 = _
      rw [hd, wN_first (by omega) (by omega)]
      show ((wN 2 bl (wN 2 ks (wN 3 ki (0, [164]))))).2 = _
      rw [wN_yes f3, wN_yes f2, wN_yes fb]
      first | (simp only [pl2, pl3, pq4, List.cons_append, List.nil_append]; done) | (simp only [pl2, pl3, pq4, List.cons_append, List.nil_append]; rfl) | rfl
    rw [e, hd]
    refine ⟨?_, rfl⟩
    show (⟨6, ki % 256 + 256 * (ki / 256 % 256), ks % 256, false, false, false, true, 0, 0, 0, 0, 0, 0, 0, 0, 0, 0, 0, bl % 256, 0, 0⟩ : Ms) = _
    (rw [hk, hs, hb])
theorem gl_7 (d0 d1 d2 d3 d4 d5 d6 : Int)  (hdu : dataU 0 (dL d0 d1 d2 d3 d4 d5 d6) = true) : getM 7 (stM ⟨7, 0, 0, false, false, false, false, 0, 0, d0, d1, d2, d3, d4, d5, d6, 0, 0, 0, 0, 0⟩).2 = ⟨7, 0, 0, false, false, false, false, 0, 0, d0, d1, d2, d3, d4, d5, d6, 0, 0, 0, 0, 0⟩ ∧ lnA (setL [] 0 (headE 7 false false false false 0 0 0)) = lnA (stM ⟨7, 0, 0, false, false, false, false, 0, 0, d0, d1, d2, d3, d4, d5, d6, 0, 0, 0, 0, 0⟩).2 := by
  rw [dataU_iff] at hdu
  simp at hdu
  obtain ⟨rfl, rfl, rfl, rfl, rfl, rfl, rfl⟩ := hdu
  exact ⟨rfl, rfl⟩
theorem gl_8 (ki ks d0 d1 d2 d3 d4 d5 d6 : Int) (hki : 0 ≤ ki ∧ ki ≤ 65535) (hks : 0 ≤ ks ∧ ks ≤ 255) (hdu : dataU 0 (dL d0 d1 d2 d3 d4 d5 d6) = true) : getM 8 (stM ⟨8, ki, ks, false, false, false, false, 0, 0, d0, d1, d2, d3, d4, d5, d6, 0, 0, 0, 0, 0⟩).2 = ⟨8, ki, ks, false, false, false, false, 0, 0, d0, d1, d2, d3, d4, d5, d6, 0, 0, 0, 0, 0⟩ ∧ lnA (setL (putR 1 (putR 2 [] 1 ki) 3 ks) 0 (headE 8 false false false false 0 0 0)) = lnA (stM ⟨8, ki, ks, false, false, false, false, 0, 0, d0, d1, d2, d3, d4, d5, d6, 0, 0, 0, 0, 0⟩).2 := by
  rw [dataU_iff] at hdu
  have f3 : fitB 3 ki = true := by rw [fit3]; simp [inB]; omega
  have f2 : fitB 2 ks = true := by rw [fit2]; simp [inB]; omega
  have hk : ki % 256 + 256 * (ki / 256 % 256) = ki := by omega
  have hs : ks % 256 = ks := by omega
  simp at hdu
  obtain ⟨rfl, rfl, rfl, rfl, rfl, rfl, rfl⟩ := hdu
  have hd : headE 8 false false false false 0 0 0 = 96 := rfl
  have e : (stM ⟨8, ki, ks, false, false, false, false, 0, 0, 0, 0, 0, 0, 0, 0, 0, 0, 0, 0, 0, 0⟩).2 = [96, ki % 256, ki / 256 % 256, ks % 256] := by
    show (restE 8 ki ks false 0 0 (dL 0 0 0 0 0 0 0) 0 0 0 0 (wN 2 (headE 8 false false false false 0 0 0) (0, []))).2 = _
    rw [hd, wN_first (by omega) (by omega)]
    show ((wN 2 ks (wN 3 ki (0, [96])))).2 = _
    rw [wN_yes f3, wN_yes f2]
    first | (simp only [pl2, pl3, pq4, List.cons_append, List.nil_append]; done) | (simp only [pl2, pl3, pq4, List.cons_append, List.nil_append]; rfl) | rfl
  rw [e, hd]
  refine ⟨?_, rfl⟩
  show (⟨8, ki % 256 + 256 * (ki / 256 % 256), ks % 256, false, false, false, false, 0, 0, 0, 0, 0, 0, 0, 0, 0, 0, 0, 0, 0, 0⟩ : Ms) = _
  (rw [hk, hs])
theorem gl_9 (d0 d1 d2 d3 d4 d5 d6 : Int) (tg : Bool)  (hdu : dataU 0 (dL d0 d1 d2 d3 d4 d5 d6) = true) : getM 9 (stM ⟨9, 0, 0, tg, false, false, false, 0, 0, d0, d1, d2, d3, d4, d5, d6, 0, 0, 0, 0, 0⟩).2 = ⟨9, 0, 0, tg, false, false, false, 0, 0, d0, d1, d2, d3, d4, d5, d6, 0, 0, 0, 0, 0⟩ ∧ lnA (setL [] 0 (headE 9 tg false false false 0 0 0)) = lnA (stM ⟨9, 0, 0, tg, false, false, false, 0, 0, d0, d1, d2, d3, d4, d5, d6, 0, 0, 0, 0, 0⟩).2 := by
  rw [dataU_iff] at hdu
  cases tg
  · skip
    simp at hdu
    obtain ⟨rfl, rfl, rfl, rfl, rfl, rfl, rfl⟩ := hdu
    exact ⟨rfl, rfl⟩
  · skip
    simp at hdu
    obtain ⟨rfl, rfl, rfl, rfl, rfl, rfl, rfl⟩ := hdu
    exact ⟨rfl, rfl⟩
theorem gl_10fp (ki ks sz d0 d1 d2 d3 d4 d5 d6 : Int) (hki : 0 ≤ ki ∧ ki ≤ 65535) (hks : 0 ≤ ks ∧ ks ≤ 255) (hsz : -1 ≤ sz ∧ sz ≤ 4294967295) (hz : 0 < sz) (hdu : dataU 0 (dL d0 d1 d2 d3 d4 d5 d6) = true) : getM 10 (stM ⟨10, ki, ks, false, false, false, false, sz, 0, d0, d1, d2, d3, d4, d5, d6, 0, 0, 0, 0, 0⟩).2 = ⟨10, ki, ks, false, false, false, false, sz, 0, d0, d1, d2, d3, d4, d5, d6, 0, 0, 0, 0, 0⟩ ∧ lnA (setL (putR 4 (putR 1 (putR 2 [] 1 ki) 3 ks) 4 sz) 0 (headE 10 false false false false sz 0 0)) = lnA (stM ⟨10, ki, ks, false, false, false, false, sz, 0, d0, d1, d2, d3, d4, d5, d6, 0, 0, 0, 0, 0⟩).2 := by
  rw [dataU_iff] at hdu
  have f3 : fitB 3 ki = true := by rw [fit3]; simp [inB]; omega
  have f2 : fitB 2 ks = true := by rw [fit2]; simp [inB]; omega
  have hk : ki % 256 + 256 * (ki / 256 % 256) = ki := by omega
  have hs : ks % 256 = ks := by omega
  have f0 : fitB 4 0 = true := by decide
  have f4 : fitB 4 sz = true := by rw [fit4]; simp [inB]; omega
  simp at hdu
  obtain ⟨rfl, rfl, rfl, rfl, rfl, rfl, rfl⟩ := hdu
  have hd : headE 10 false false false false sz 0 0 = 65 := by simp [headE, begunE, bitN]; try omega
  have e : (stM ⟨10, ki, ks, false, false, false, false, sz, 0, 0, 0, 0, 0, 0, 0, 0, 0, 0, 0, 0, 0⟩).2 = [65, ki % 256, ki / 256 % 256, ks % 256, sz % 256, sz / 256 % 256, sz / 256 / 256 % 256, sz / 256 / 256 / 256 % 256] := by
    show (restE 10 ki ks false sz 0 (dL 0 0 0 0 0 0 0) 0 0 0 0 (wN 2 (headE 10 false false false false sz 0 0) (0, []))).2 = _
    rw [hd, wN_first (by omega) (by omega)]
    show (wZ sz (wK ki ks (0, [65]))).2 = _
    unfold wZ wK
    rw [if_neg (show ¬ sz = -1 by omega)]
    show ((wN 4 sz (wN 2 ks (wN 3 ki (0, [65]))))).2 = _
    rw [wN_yes f3, wN_yes f2, wN_yes f4]
    first | (simp only [pl2, pl3, pq4, List.cons_append, List.nil_append]; done) | (simp only [pl2, pl3, pq4, List.cons_append, List.nil_append]; rfl) | rfl
  rw [e, hd]
  refine ⟨?_, rfl⟩
  show (⟨10, ki % 256 + 256 * (ki / 256 % 256), ks % 256, false, false, false, false, gsN true 0 [sz % 256, sz / 256 % 256, sz / 256 / 256 % 256, sz / 256 / 256 / 256 % 256], 0, 0, 0, 0, 0, 0, 0, 0, 0, 0, 0, 0, 0⟩ : Ms) = _
  (rw [hk, hs, gs_true (by omega)])
theorem gl_10fz (ki ks sz d0 d1 d2 d3 d4 d5 d6 : Int) (hki : 0 ≤ ki ∧ ki ≤ 65535) (hks : 0 ≤ ks ∧ ks ≤ 255) (hsz : -1 ≤ sz ∧ sz ≤ 4294967295) (hz : ¬ 0 < sz) (hdu : dataU 0 (dL d0 d1 d2 d3 d4 d5 d6) = true) : getM 10 (stM ⟨10, ki, ks, false, false, false, false, sz, 0, d0, d1, d2, d3, d4, d5, d6, 0, 0, 0, 0, 0⟩).2 = ⟨10, ki, ks, false, false, false, false, sz, 0, d0, d1, d2, d3, d4, d5, d6, 0, 0, 0, 0, 0⟩ ∧ lnA (setL (putR 1 (putR 2 [] 1 ki) 3 ks) 0 (headE 10 false false false false sz 0 0)) = lnA (stM ⟨10, ki, ks, false, false, false, false, sz, 0, d0, d1, d2, d3, d4, d5, d6, 0, 0, 0, 0, 0⟩).2 := by
  rw [dataU_iff] at hdu
  have f3 : fitB 3 ki = true := by rw [fit3]; simp [inB]; omega
  have f2 : fitB 2 ks = true := by rw [fit2]; simp [inB]; omega
  have hk : ki % 256 + 256 * (ki / 256 % 256) = ki := by omega
  have hs : ks % 256 = ks := by omega
  have f0 : fitB 4 0 = true := by decide
  have hzz : sz = -1 ∨ sz = 0 := by omega
  rcases hzz with rfl | rfl
  · skip
    simp at hdu
    obtain ⟨rfl, rfl, rfl, rfl, rfl, rfl, rfl⟩ := hdu
    have hd : headE 10 false false false false (-1) 0 0 = 64 := rfl
    have e : (stM ⟨10, ki, ks, false, false, false, false, (-1), 0, 0, 0, 0, 0, 0, 0, 0, 0, 0, 0, 0, 0⟩).2 = [64, ki % 256, ki / 256 % 256, ks % 256, 0, 0, 0, 0] := by
      show (restE 10 ki ks false (-1) 0 (dL 0 0 0 0 0 0 0) 0 0 0 0 (wN 2 (headE 10 false false false false (-1) 0 0) (0, []))).2 = _
      rw [hd, wN_first (by omega) (by omega)]
      show ((wN 4 0 (wN 2 ks (wN 3 ki (0, [64]))))).2 = _
      rw [wN_yes f3, wN_yes f2, wN_yes f0]
      first | (simp only [pl2, pl3, pq4, List.cons_append, List.nil_append]; done) | (simp only [pl2, pl3, pq4, List.cons_append, List.nil_append]; rfl) | rfl
    rw [e, hd]
    refine ⟨?_, rfl⟩
    show (⟨10, ki % 256 + 256 * (ki / 256 % 256), ks % 256, false, false, false, false, -1, 0, 0, 0, 0, 0, 0, 0, 0, 0, 0, 0, 0, 0⟩ : Ms) = _
    (rw [hk, hs])
  · skip
    simp at hdu
    obtain ⟨rfl, rfl, rfl, rfl, rfl, rfl, rfl⟩ := hdu
    have hd : headE 10 false false false false 0 0 0 = 65 := rfl
    have e : (stM ⟨10, ki, ks, false, false, false, false, 0, 0, 0, 0, 0, 0, 0, 0, 0, 0, 0, 0, 0, 0⟩).2 = [65, ki % 256, ki / 256 % 256, ks % 256, 0, 0, 0, 0] := by
      show (restE 10 ki ks false 0 0 (dL 0 0 0 0 0 0 0) 0 0 0 0 (wN 2 (headE 10 false false false false 0 0 0) (0, []))).2 = _
      rw [hd, wN_first (by omega) (by omega)]
      show ((wN 4 0 (wN 2 ks (wN 3 ki (0, [65]))))).2 = _
      rw [wN_yes f3, wN_yes f2, wN_yes f0]
      first | (simp only [pl2, pl3, pq4, List.cons_append, List.nil_append]; done) | (simp only [pl2, pl3, pq4, List.cons_append, List.nil_append]; rfl) | rfl
    rw [e, hd]
    refine ⟨?_, rfl⟩
    show (⟨10, ki % 256 + 256 * (ki / 256 % 256), ks % 256, false, false, false, false, gsN true 0 [(0 : Int) % 256, (0 : Int) / 256 % 256, (0 : Int) / 256 / 256 % 256, (0 : Int) / 256 / 256 / 256 % 256], 0, 0, 0, 0, 0, 0, 0, 0, 0, 0, 0, 0, 0⟩ : Ms) = _
    (rw [hk, hs, gs_true (by omega)])
theorem gl_10t (ki ks n d0 d1 d2 d3 d4 d5 d6 : Int) (hki : 0 ≤ ki ∧ ki ≤ 65535) (hks : 0 ≤ ks ∧ ks ≤ 255) (hn : 1 ≤ n ∧ n ≤ 4) (hdu : dataU n (dL d0 d1 d2 d3 d4 d5 d6) = true) : getM 10 (stM ⟨10, ki, ks, false, false, true, false, 0, n, d0, d1, d2, d3, d4, d5, d6, 0, 0, 0, 0, 0⟩).2 = ⟨10, ki, ks, false, false, true, false, 0, n, d0, d1, d2, d3, d4, d5, d6, 0, 0, 0, 0, 0⟩ ∧ lnA (setL (putD n.toNat (dL d0 d1 d2 d3 d4 d5 d6) 4 (putR 1 (putR 2 [] 1 ki) 3 ks)) 0 (headE 10 false false true false 0 n 0)) = lnA (stM ⟨10, ki, ks, false, false, true, false, 0, n, d0, d1, d2, d3, d4, d5, d6, 0, 0, 0, 0, 0⟩).2 := by
  rw [dataU_iff] at hdu
  have f3 : fitB 3 ki = true := by rw [fit3]; simp [inB]; omega
  have f2 : fitB 2 ks = true := by rw [fit2]; simp [inB]; omega
  have hk : ki % 256 + 256 * (ki / 256 % 256) = ki := by omega
  have hs : ks % 256 = ks := by omega
  have hnn : n = 1 ∨ n = 2 ∨ n = 3 ∨ n = 4 := by omega
  rcases hnn with rfl | rfl | rfl | rfl
  · skip
    simp at hdu
    obtain ⟨rfl, rfl, rfl, rfl, rfl, rfl⟩ := hdu
    have hd : headE 10 false false true false 0 1 0 = 79 := rfl
    have e : (stM ⟨10, ki, ks, false, false, true, false, 0, 1, d0, 0, 0, 0, 0, 0, 0, 0, 0, 0, 0, 0⟩).2 = [79, ki % 256, ki / 256 % 256, ks % 256, d0] := by
      show (restE 10 ki ks true 0 1 (dL d0 0 0 0 0 0 0) 0 0 0 0 (wN 2 (headE 10 false false true false 0 1 0) (0, []))).2 = _
      rw [hd, wN_first (by omega) (by omega)]
      show ((wR (List.take (1 : Int).toNat (dL d0 0 0 0 0 0 0)) (wN 2 ks (wN 3 ki (0, [79]))))).2 = _
      rw [wN_yes f3, wN_yes f2, wR_yes]
      first | (simp only [pl2, pl3, pq4, List.cons_append, List.nil_append]; done) | (simp only [pl2, pl3, pq4, List.cons_append, List.nil_append]; rfl) | rfl
    rw [e, hd]
    refine ⟨?_, rfl⟩
    show (⟨10, ki % 256 + 256 * (ki / 256 % 256), ks % 256, false, false, true, false, 0, 1, d0, 0, 0, 0, 0, 0, 0, 0, 0, 0, 0, 0⟩ : Ms) = _
    (rw [hk, hs])
  · skip
    simp at hdu
    obtain ⟨rfl, rfl, rfl, rfl, rfl⟩ := hdu
    have hd : headE 10 false false true false 0 2 0 = 75 := rfl
    have e : (stM ⟨10, ki, ks, false, false, true, false, 0, 2, d0, d1, 0, 0, 0, 0, 0, 0, 0, 0, 0, 0⟩).2 = [75, ki % 256, ki / 256 % 256, ks % 256, d0, d1] := by
      show (restE 10 ki ks true 0 2 (dL d0 d1 0 0 0 0 0) 0 0 0 0 (wN 2 (headE 10 false false true false 0 2 0) (0, []))).2 = _
      rw [hd, wN_first (by omega) (by omega)]
      show ((wR (List.take (2 : Int).toNat (dL d0 d1 0 0 0 0 0)) (wN 2 ks (wN 3 ki (0, [75]))))).2 = _
      rw [wN_yes f3, wN_yes f2, wR_yes]
      first | (simp only [pl2, pl3, pq4, List.cons_append, List.nil_append]; done) | (simp only [pl2, pl3, pq4, List.cons_append, List.nil_append]; rfl) | rfl
    rw [e, hd]
    refine ⟨?_, rfl⟩
    show (⟨10, ki % 256 + 256 * (ki / 256 % 256), ks % 256, false, false, true, false, 0, 2, d0, d1, 0, 0, 0, 0, 0, 0, 0, 0, 0, 0⟩ : Ms) = _
    (rw [hk, hs])
  · skip
    simp at hdu
    obtain ⟨rfl, rfl, rfl, rfl⟩ := hdu
    have hd : headE 10 false false true false 0 3 0 = 71 := rfl
    have e : (stM ⟨10, ki, ks, false, false, true, false, 0, 3, d0, d1, d2, 0, 0, 0, 0, 0, 0, 0, 0, 0⟩).2 = [71, ki % 256, ki / 256 % 256, ks % 256, d0, d1, d2] := by
      show (restE 10 ki ks true 0 3 (dL d0 d1 d2 0 0 0 0) 0 0 0 0 (wN 2 (headE 10 false false true false 0 3 0) (0, []))).2 = _
      rw [hd, wN_first (by omega) (by omega)]
      show ((wR (List.take (3 : Int).toNat (dL d0 d1 d2 0 0 0 0)) (wN 2 ks (wN 3 ki (0, [71]))))).2 = _
      rw [wN_yes f3, wN_yes f2, wR_yes]
      first | (simp only [pl2, pl3, pq4, List.cons_append, List.nil_append]; done) | (simp only [pl2, pl3, pq4, List.cons_append, List.nil_append]; rfl) | rfl
    rw [e, hd]
    refine ⟨?_, rfl⟩
    show (⟨10, ki % 256 + 256 * (ki / 256 % 256), ks % 256, false, false, true, false, 0, 3, d0, d1, d2, 0, 0, 0, 0, 0, 0, 0, 0, 0⟩ : Ms) = _
    (rw [hk, hs])
  · skip
    simp at hdu
    obtain ⟨rfl, rfl, rfl⟩ := hdu
    have hd : headE 10 false false true false 0 4 0 = 67 := rfl
    have e : (stM ⟨10, ki, ks, false, false, true, false, 0, 4, d0, d1, d2, d3, 0, 0, 0, 0, 0, 0, 0, 0⟩).2 = [67, ki % 256, ki / 256 % 256, ks % 256, d0, d1, d2, d3] := by
      show (restE 10 ki ks true 0 4 (dL d0 d1 d2 d3 0 0 0) 0 0 0 0 (wN 2 (headE 10 false false true false 0 4 0) (0, []))).2 = _
      rw [hd, wN_first (by omega) (by omega)]
      show ((wR (List.take (4 : Int).toNat (dL d0 d1 d2 d3 0 0 0)) (wN 2 ks (wN 3 ki (0, [67]))))).2 = _
      rw [wN_yes f3, wN_yes f2, wR_yes]
      first | (simp only [pl2, pl3, pq4, List.cons_append, List.nil_append]; done) | (simp only [pl2, pl3, pq4, List.cons_append, List.nil_append]; rfl) | rfl
    rw [e, hd]
    refine ⟨?_, rfl⟩
    show (⟨10, ki % 256 + 256 * (ki / 256 % 256), ks % 256, false, false, true, false, 0, 4, d0, d1, d2, d3, 0, 0, 0, 0, 0, 0, 0, 0⟩ : Ms) = _
    (rw [hk, hs])
theorem gl_11 (n d0 d1 d2 d3 d4 d5 d6 : Int) (tg la : Bool) (hn : 0 ≤ n ∧ n ≤ 7) (hdu : dataU n (dL d0 d1 d2 d3 d4 d5 d6) = true) : getM 11 (stM ⟨11, 0, 0, tg, la, false, false, 0, n, d0, d1, d2, d3, d4, d5, d6, 0, 0, 0, 0, 0⟩).2 = ⟨11, 0, 0, tg, la, false, false, 0, n, d0, d1, d2, d3, d4, d5, d6, 0, 0, 0, 0, 0⟩ ∧ lnA (setL (putD n.toNat (dL d0 d1 d2 d3 d4 d5 d6) 1 []) 0 (headE 11 tg la false false 0 n 0)) = lnA (stM ⟨11, 0, 0, tg, la, false, false, 0, n, d0, d1, d2, d3, d4, d5, d6, 0, 0, 0, 0, 0⟩).2 := by
  rw [dataU_iff] at hdu
  cases tg
  · skip
    cases la
    · skip
      have hnn : n = 0 ∨ n = 1 ∨ n = 2 ∨ n = 3 ∨ n = 4 ∨ n = 5 ∨ n = 6 ∨ n = 7 := by omega
      rcases hnn with rfl | rfl | rfl | rfl | rfl | rfl | rfl | rfl
      · skip
        simp at hdu
        obtain ⟨rfl, rfl, rfl, rfl, rfl, rfl, rfl⟩ := hdu
        exact ⟨rfl, rfl⟩
      · skip
        simp at hdu
        obtain ⟨rfl, rfl, rfl, rfl, rfl, rfl⟩ := hdu
        exact ⟨rfl, rfl⟩
      · skip
        simp at hdu
        obtain ⟨rfl, rfl, rfl, rfl, rfl⟩ := hdu
        exact ⟨rfl, rfl⟩
      · skip
        simp at hdu
        obtain ⟨rfl, rfl, rfl, rfl⟩ := hdu
        exact ⟨rfl, rfl⟩
      · skip
        simp at hdu
        obtain ⟨rfl, rfl, rfl⟩ := hdu
        exact ⟨rfl, rfl⟩
      · skip
        simp at hdu
        obtain ⟨rfl, rfl⟩ := hdu
        exact ⟨rfl, rfl⟩
      · skip
        simp at hdu
        subst hdu
        exact ⟨rfl, rfl⟩
      · skip
        clear hdu
        exact ⟨rfl, rfl⟩
    · skip
      have hnn : n = 0 ∨ n = 1 ∨ n = 2 ∨ n = 3 ∨ n = 4 ∨ n = 5 ∨ n = 6 ∨ n = 7 := by omega
      rcases hnn with rfl | rfl | rfl | rfl | rfl | rfl | rfl | rfl
      · skip
        simp at hdu
        obtain ⟨rfl, rfl, rfl, rfl, rfl, rfl, rfl⟩ := hdu
        exact ⟨rfl, rfl⟩
      · skip
        simp at hdu
        obtain ⟨rfl, rfl, rfl, rfl, rfl, rfl⟩ := hdu
        exact ⟨rfl, rfl⟩
      · skip
        simp at hdu
        obtain ⟨rfl, rfl, rfl, rfl, rfl⟩ := hdu
        exact ⟨rfl, rfl⟩
      · skip
        simp at hdu
        obtain ⟨rfl, rfl, rfl, rfl⟩ := hdu
        exact ⟨rfl, rfl⟩
      · skip
        simp at hdu
        obtain ⟨rfl, rfl, rfl⟩ := hdu
        exact ⟨rfl, rfl⟩
      · skip
        simp at hdu
        obtain ⟨rfl, rfl⟩ := hdu
        exact ⟨rfl, rfl⟩
      · skip
        simp at hdu
        subst hdu
        exact ⟨rfl, rfl⟩
      · skip
        clear hdu
        exact ⟨rfl, rfl⟩
  · skip
    cases la
    · skip
      have hnn : n = 0 ∨ n = 1 ∨ n = 2 ∨ n = 3 ∨ n = 4 ∨ n = 5 ∨ n = 6 ∨ n = 7 := by omega
      rcases hnn with rfl | rfl | rfl | rfl | rfl | rfl | rfl | rfl
      · skip
        simp at hdu
        obtain ⟨rfl, rfl, rfl, rfl, rfl, rfl, rfl⟩ := hdu
        exact ⟨rfl, rfl⟩
      · skip
        simp at hdu
        obtain ⟨rfl, rfl, rfl, rfl, rfl, rfl⟩ := hdu
        exact ⟨rfl, rfl⟩
      · skip
        simp at hdu
        obtain ⟨rfl, rfl, rfl, rfl, rfl⟩ := hdu
        exact ⟨rfl, rfl⟩
      · skip
        simp at hdu
        obtain ⟨rfl, rfl, rfl, rfl⟩ := hdu
        exact ⟨rfl, rfl⟩
      · skip
        simp at hdu
        obtain ⟨rfl, rfl, rfl⟩ := hdu
        exact ⟨rfl, rfl⟩
      · skip
        simp at hdu
        obtain ⟨rfl, rfl⟩ := hdu
        exact ⟨rfl, rfl⟩
      · skip
        simp at hdu
        subst hdu
        exact ⟨rfl, rfl⟩
      · skip
        clear hdu
        exact ⟨rfl, rfl⟩
    · skip
      have hnn : n = 0 ∨ n = 1 ∨ n = 2 ∨ n = 3 ∨ n = 4 ∨ n = 5 ∨ n = 6 ∨ n = 7 := by omega
      rcases hnn with rfl | rfl | rfl | rfl | rfl | rfl | rfl | rfl
      · skip
        simp at hdu
        obtain ⟨rfl, rfl, rfl, rfl, rfl, rfl, rfl⟩ := hdu
        exact ⟨rfl, rfl⟩
      · skip
        simp at hdu
        obtain ⟨rfl, rfl, rfl, rfl, rfl, rfl⟩ := hdu
        exact ⟨rfl, rfl⟩
      · skip
        simp at hdu
        obtain ⟨rfl, rfl, rfl, rfl, rfl⟩ := hdu
        exact ⟨rfl, rfl⟩
      · skip
        simp at hdu
        obtain ⟨rfl, rfl, rfl, rfl⟩ := hdu
        exact ⟨rfl, rfl⟩
      · skip
        simp at hdu
        obtain ⟨rfl, rfl, rfl⟩ := hdu
        exact ⟨rfl, rfl⟩
      · skip
        simp at hdu
        obtain ⟨rfl, rfl⟩ := hdu
        exact ⟨rfl, rfl⟩
      · skip
        simp at hdu
        subst hdu
        exact ⟨rfl, rfl⟩
      · skip
        clear hdu
        exact ⟨rfl, rfl⟩
theorem gl_12 (ki ks bl d0 d1 d2 d3 d4 d5 d6 : Int) (su : Bool) (hki : 0 ≤ ki ∧ ki ≤ 65535) (hks : 0 ≤ ks ∧ ks ≤ 255) (hbl : 1 ≤ bl ∧ bl ≤ 127) (hdu : dataU 0 (dL d0 d1 d2 d3 d4 d5 d6) = true) : getM 12 (stM ⟨12, ki, ks, false, false, false, su, 0, 0, d0, d1, d2, d3, d4, d5, d6, 0, 0, bl, 0, 0⟩).2 = ⟨12, ki, ks, false, false, false, su, 0, 0, d0, d1, d2, d3, d4, d5, d6, 0, 0, bl, 0, 0⟩ ∧ lnA (setL (putR 1 (putR 1 (putR 2 [] 1 ki) 3 ks) 4 bl) 0 (headE 12 false false false su 0 0 0)) = lnA (stM ⟨12, ki, ks, false, false, false, su, 0, 0, d0, d1, d2, d3, d4, d5, d6, 0, 0, bl, 0, 0⟩).2 := by
  rw [dataU_iff] at hdu
  have f3 : fitB 3 ki = true := by rw [fit3]; simp [inB]; omega
  have f2 : fitB 2 ks = true := by rw [fit2]; simp [inB]; omega
  have hk : ki % 256 + 256 * (ki / 256 % 256) = ki := by omega
  have hs : ks % 256 = ks := by omega
  have fb : fitB 2 bl = true := by rw [fit2]; simp [inB]; omega
  have hb : bl % 256 = bl := by omega
  cases su
  · skip
    simp at hdu
    obtain ⟨rfl, rfl, rfl, rfl, rfl, rfl, rfl⟩ := hdu
    have hd : headE 12 false false false false 0 0 0 = 160 := rfl
    have e : (stM ⟨12, ki, ks, false, false, false, false, 0, 0, 0, 0, 0, 0, 0, 0, 0, 0, 0, bl, 0, 0⟩).2 = [160, ki % 256, ki / 256 % 256, ks % 256, bl % 256] := by
      show (restE 12 ki ks false 0 0 (dL 0 0 0 0 0 0 0) 0 0 bl 0 (wN 2 (headE 12 false false false false 0 0 0) (0, []))).2 = _
      rw [hd, wN_first (by omega) (by omega)]
      show ((wN 2 bl (wN 2 ks (wN 3 ki (0, [160]))))).2 = _
      rw [wN_yes f3, wN_yes f2, wN_yes fb]
      first | (simp only [pl2, pl3, pq4, List.cons_append, List.nil_append]; done) | (simp only [pl2, pl3, pq4, List.cons_append, List.nil_append]; rfl) | rfl
    rw [e, hd]
    refine ⟨?_, rfl⟩
    show (⟨12, ki % 256 + 256 * (ki / 256 % 256), ks % 256, false, false, false, false, 0, 0, 0, 0, 0, 0, 0, 0, 0, 0, 0, bl % 256, 0, 0⟩ : Ms) = _
    (rw [hk, hs, hb])
  · skip
    simp at hdu
    obtain ⟨rfl, rfl, rfl, rfl, rfl, rfl, rfl⟩ := hdu
    have hd : headE 12 false false false true 0 0 0 = 164 := rfl
    have e : (stM ⟨12, ki, ks, false, false, false, true, 0, 0, 0, 0, 0, 0, 0, 0, 0, 0, 0, bl, 0, 0⟩).2 = [164, ki % 256, ki / 256 % 256, ks % 256, bl % 256] := by
      show (restE 12 ki ks false 0 0 (dL 0 0 0 0 0 0 0) 0 0 bl 0 (wN 2 (headE 12 false false false true 0 0 0) (0, []))).2 = _
      rw [hd, wN_first (by omega) (by omega)]
      show ((wN 2 bl (wN 2 ks (wN 3 ki (0, [164]))))).2 = _
      rw [wN_yes f3, wN_yes f2, wN_yes fb]
      first | (simp only [pl2, pl3, pq4, List.cons_append, List.nil_append]; done) | (simp only [pl2, pl3, pq4, List.cons_append, List.nil_append]; rfl) | rfl
    rw [e, hd]
    refine ⟨?_, rfl⟩
    show (⟨12, ki % 256 + 256 * (ki / 256 % 256), ks % 256, false, false, false, true, 0, 0, 0, 0, 0, 0, 0, 0, 0, 0, 0, bl % 256, 0, 0⟩ : Ms) = _
    (rw [hk, hs, hb])
theorem gl_13p (ki ks sz d0 d1 d2 d3 d4 d5 d6 : Int) (su : Bool) (hki : 0 ≤ ki ∧ ki ≤ 65535) (hks : 0 ≤ ks ∧ ks ≤ 255) (hsz : -1 ≤ sz ∧ sz ≤ 4294967295) (hz : 0 < sz) (hdu : dataU 0 (dL d0 d1 d2 d3 d4 d5 d6) = true) : getM 13 (stM ⟨13, ki, ks, false, false, false, su, sz, 0, d0, d1, d2, d3, d4, d5, d6, 0, 0, 0, 0, 0⟩).2 = ⟨13, ki, ks, false, false, false, su, sz, 0, d0, d1, d2, d3, d4, d5, d6, 0, 0, 0, 0, 0⟩ ∧ lnA (setL (putR 4 (putR 1 (putR 2 [] 1 ki) 3 ks) 4 sz) 0 (headE 13 false false false su sz 0 0)) = lnA (stM ⟨13, ki, ks, false, false, false, su, sz, 0, d0, d1, d2, d3, d4, d5, d6, 0, 0, 0, 0, 0⟩).2 := by
  rw [dataU_iff] at hdu
  have f3 : fitB 3 ki = true := by rw [fit3]; simp [inB]; omega
  have f2 : fitB 2 ks = true := by rw [fit2]; simp [inB]; omega
  have hk : ki % 256 + 256 * (ki / 256 % 256) = ki := by omega
  have hs : ks % 256 = ks := by omega
  have f0 : fitB 4 0 = true := by decide
  have f4 : fitB 4 sz = true := by rw [fit4]; simp [inB]; omega
  cases su
  · skip
    simp at hdu
    obtain ⟨rfl, rfl, rfl, rfl, rfl, rfl, rfl⟩ := hdu
    have hd : headE 13 false false false false sz 0 0 = 194 := by simp [headE, begunE, bitN]; try omega
    have e : (stM ⟨13, ki, ks, false, false, false, false, sz, 0, 0, 0, 0, 0, 0, 0, 0, 0, 0, 0, 0, 0⟩).2 = [194, ki % 256, ki / 256 % 256, ks % 256, sz % 256, sz / 256 % 256, sz / 256 / 256 % 256, sz / 256 / 256 / 256 % 256] := by
      show (restE 13 ki ks false sz 0 (dL 0 0 0 0 0 0 0) 0 0 0 0 (wN 2 (headE 13 false false false false sz 0 0) (0, []))).2 = _
      rw [hd, wN_first (by omega) (by omega)]
      show (wZ sz (wK ki ks (0, [194]))).2 = _
      unfold wZ wK
      rw [if_neg (show ¬ sz = -1 by omega)]
      show ((wN 4 sz (wN 2 ks (wN 3 ki (0, [194]))))).2 = _
      rw [wN_yes f3, wN_yes f2, wN_yes f4]
      first | (simp only [pl2, pl3, pq4, List.cons_append, List.nil_append]; done) | (simp only [pl2, pl3, pq4, List.cons_append, List.nil_append]; rfl) | rfl
    rw [e, hd]
    refine ⟨?_, rfl⟩
    show (⟨13, ki % 256 + 256 * (ki / 256 % 256), ks % 256, false, false, false, false, gsN true 0 [sz % 256, sz / 256 % 256, sz / 256 / 256 % 256, sz / 256 / 256 / 256 % 256], 0, 0, 0, 0, 0, 0, 0, 0, 0, 0, 0, 0, 0⟩ : Ms) = _
    (rw [hk, hs, gs_true (by omega)])
  · skip
    simp at hdu
    obtain ⟨rfl, rfl, rfl, rfl, rfl, rfl, rfl⟩ := hdu
    have hd : headE 13 false false false true sz 0 0 = 198 := by simp [headE, begunE, bitN]; try omega
    have e : (stM ⟨13, ki, ks, false, false, false, true, sz, 0, 0, 0, 0, 0, 0, 0, 0, 0, 0, 0, 0, 0⟩).2 = [198, ki % 256, ki / 256 % 256, ks % 256, sz % 256, sz / 256 % 256, sz / 256 / 256 % 256, sz / 256 / 256 / 256 % 256] := by
      show (restE 13 ki ks false sz 0 (dL 0 0 0 0 0 0 0) 0 0 0 0 (wN 2 (headE 13 false false false true sz 0 0) (0, []))).2 = _
      rw [hd, wN_first (by omega) (by omega)]
      show (wZ sz (wK ki ks (0, [198]))).2 = _
      unfold wZ wK
      rw [if_neg (show ¬ sz = -1 by omega)]
      show ((wN 4 sz (wN 2 ks (wN 3 ki (0, [198]))))).2 = _
      rw [wN_yes f3, wN_yes f2, wN_yes f4]
      first | (simp only [pl2, pl3, pq4, List.cons_append, List.nil_append]; done) | (simp only [pl2, pl3, pq4, List.cons_append, List.nil_append]; rfl) | rfl
    rw [e, hd]
    refine ⟨?_, rfl⟩
    show (⟨13, ki % 256 + 256 * (ki / 256 % 256), ks % 256, false, false, false, true, gsN true 0 [sz % 256, sz / 256 % 256, sz / 256 / 256 % 256, sz / 256 / 256 / 256 % 256], 0, 0, 0, 0, 0, 0, 0, 0, 0, 0, 0, 0, 0⟩ : Ms) = _
    (rw [hk, hs, gs_true (by omega)])
theorem gl_13z (ki ks sz d0 d1 d2 d3 d4 d5 d6 : Int) (su : Bool) (hki : 0 ≤ ki ∧ ki ≤ 65535) (hks : 0 ≤ ks ∧ ks ≤ 255) (hsz : -1 ≤ sz ∧ sz ≤ 4294967295) (hz : ¬ 0 < sz) (hdu : dataU 0 (dL d0 d1 d2 d3 d4 d5 d6) = true) : getM 13 (stM ⟨13, ki, ks, false, false, false, su, sz, 0, d0, d1, d2, d3, d4, d5, d6, 0, 0, 0, 0, 0⟩).2 = ⟨13, ki, ks, false, false, false, su, sz, 0, d0, d1, d2, d3, d4, d5, d6, 0, 0, 0, 0, 0⟩ ∧ lnA (setL (putR 1 (putR 2 [] 1 ki) 3 ks) 0 (headE 13 false false false su sz 0 0)) = lnA (stM ⟨13, ki, ks, false, false, false, su, sz, 0, d0, d1, d2, d3, d4, d5, d6, 0, 0, 0, 0, 0⟩).2 := by
  rw [dataU_iff] at hdu
  have f3 : fitB 3 ki = true := by rw [fit3]; simp [inB]; omega
  have f2 : fitB 2 ks = true := by rw [fit2]; simp [inB]; omega
  have hk : ki % 256 + 256 * (ki / 256 % 256) = ki := by omega
  have hs : ks % 256 = ks := by omega
  have f0 : fitB 4 0 = true := by decide
  cases su
  · skip
    have hzz : sz = -1 ∨ sz = 0 := by omega
    rcases hzz with rfl | rfl
    · skip
      simp at hdu
      obtain ⟨rfl, rfl, rfl, rfl, rfl, rfl, rfl⟩ := hdu
      have hd : headE 13 false false false false (-1) 0 0 = 192 := rfl
      have e : (stM ⟨13, ki, ks, false, false, false, false, (-1), 0, 0, 0, 0, 0, 0, 0, 0, 0, 0, 0, 0, 0⟩).2 = [192, ki % 256, ki / 256 % 256, ks % 256, 0, 0, 0, 0] := by
        show (restE 13 ki ks false (-1) 0 (dL 0 0 0 0 0 0 0) 0 0 0 0 (wN 2 (headE 13 false false false false (-1) 0 0) (0, []))).2 = _
        rw [hd, wN_first (by omega) (by omega)]
        show ((wN 4 0 (wN 2 ks (wN 3 ki (0, [192]))))).2 = _
        rw [wN_yes f3, wN_yes f2, wN_yes f0]
        first | (simp only [pl2, pl3, pq4, List.cons_append, List.nil_append]; done) | (simp only [pl2, pl3, pq4, List.cons_append, List.nil_append]; rfl) | rfl
      rw [e, hd]
      refine ⟨?_, rfl⟩
      show (⟨13, ki % 256 + 256 * (ki / 256 % 256), ks % 256, false, false, false, false, -1, 0, 0, 0, 0, 0, 0, 0, 0, 0, 0, 0, 0, 0⟩ : Ms) = _
      (rw [hk, hs])
    · skip
      simp at hdu
      obtain ⟨rfl, rfl, rfl, rfl, rfl, rfl, rfl⟩ := hdu
      have hd : headE 13 false false false false 0 0 0 = 194 := rfl
      have e : (stM ⟨13, ki, ks, false, false, false, false, 0, 0, 0, 0, 0, 0, 0, 0, 0, 0, 0, 0, 0, 0⟩).2 = [194, ki % 256, ki / 256 % 256, ks % 256, 0, 0, 0, 0] := by
        show (restE 13 ki ks false 0 0 (dL 0 0 0 0 0 0 0) 0 0 0 0 (wN 2 (headE 13 false false false false 0 0 0) (0, []))).2 = _
        rw [hd, wN_first (by omega) (by omega)]
        show ((wN 4 0 (wN 2 ks (wN 3 ki (0, [194]))))).2 = _
        rw [wN_yes f3, wN_yes f2, wN_yes f0]
        first | (simp only [pl2, pl3, pq4, List.cons_append, List.nil_append]; done) | (simp only [pl2, pl3, pq4, List.cons_append, List.nil_append]; rfl) | rfl
      rw [e, hd]
      refine ⟨?_, rfl⟩
      show (⟨13, ki % 256 + 256 * (ki / 256 % 256), ks % 256, false, false, false, false, gsN true 0 [(0 : Int) % 256, (0 : Int) / 256 % 256, (0 : Int) / 256 / 256 % 256, (0 : Int) / 256 / 256 / 256 % 256], 0, 0, 0, 0, 0, 0, 0, 0, 0, 0, 0, 0, 0⟩ : Ms) = _
      (rw [hk, hs, gs_true (by omega)])
  · skip
    have hzz : sz = -1 ∨ sz = 0 := by omega
    rcases hzz with rfl | rfl
    · skip
      simp at hdu
      obtain ⟨rfl, rfl, rfl, rfl, rfl, rfl, rfl⟩ := hdu
      have hd : headE 13 false false false true (-1) 0 0 = 196 := rfl
      have e : (stM ⟨13, ki, ks, false, false, false, true, (-1), 0, 0, 0, 0, 0, 0, 0, 0, 0, 0, 0, 0, 0⟩).2 = [196, ki % 256, ki / 256 % 256, ks % 256, 0, 0, 0, 0] := by
        show (restE 13 ki ks false (-1) 0 (dL 0 0 0 0 0 0 0) 0 0 0 0 (wN 2 (headE 13 false false false true (-1) 0 0) (0, []))).2 = _
        rw [hd, wN_first (by omega) (by omega)]
        show ((wN 4 0 (wN 2 ks (wN 3 ki (0, [196]))))).2 = _
        rw [wN_yes f3, wN_yes f2, wN_yes f0]
        first | (simp only [pl2, pl3, pq4, List.cons_append, List.nil_append]; done) | (simp only [pl2, pl3, pq4, List.cons_append, List.nil_append]; rfl) | rfl
      rw [e, hd]
      refine ⟨?_, rfl⟩
      show (⟨13, ki % 256 + 256 * (ki / 256 % 256), ks % 256, false, false, false, true, -1, 0, 0, 0, 0, 0, 0, 0, 0, 0, 0, 0, 0, 0⟩ : Ms) = _
      (rw [hk, hs])
    · skip
      simp at hdu
      obtain ⟨rfl, rfl, rfl, rfl, rfl, rfl, rfl⟩ := hdu
      have hd : headE 13 false false false true 0 0 0 = 198 := rfl
      have e : (stM ⟨13, ki, ks, false, false, false, true, 0, 0, 0, 0, 0, 0, 0, 0, 0, 0, 0, 0, 0, 0⟩).2 = [198, ki % 256, ki / 256 % 256, ks % 256, 0, 0, 0, 0] := by
        show (restE 13 ki ks false 0 0 (dL 0 0 0 0 0 0 0) 0 0 0 0 (wN 2 (headE 13 false false false true 0 0 0) (0, []))).2 = _
        rw [hd, wN_first (by omega) (by omega)]
        show ((wN 4 0 (wN 2 ks (wN 3 ki (0, [198]))))).2 = _
        rw [wN_yes f3, wN_yes f2, wN_yes f0]
        first | (simp only [pl2, pl3, pq4, List.cons_append, List.nil_append]; done) | (simp only [pl2, pl3, pq4, List.cons_append, List.nil_append]; rfl) | rfl
      rw [e, hd]
      refine ⟨?_, rfl⟩
      show (⟨13, ki % 256 + 256 * (ki / 256 % 256), ks % 256, false, false, false, true, gsN true 0 [(0 : Int) % 256, (0 : Int) / 256 % 256, (0 : Int) / 256 / 256 % 256, (0 : Int) / 256 / 256 / 256 % 256], 0, 0, 0, 0, 0, 0, 0, 0, 0, 0, 0, 0, 0⟩ : Ms) = _
      (rw [hk, hs, gs_true (by omega)])
theorem gl_14 (ki ks co d0 d1 d2 d3 d4 d5 d6 : Int) (hki : 0 ≤ ki ∧ ki ≤ 65535) (hks : 0 ≤ ks ∧ ks ≤ 255) (hco : 0 ≤ co ∧ co ≤ 4294967295) (hdu : dataU 0 (dL d0 d1 d2 d3 d4 d5 d6) = true) : getM 14 (stM ⟨14, ki, ks, false, false, false, false, 0, 0, d0, d1, d2, d3, d4, d5, d6, co, 0, 0, 0, 0⟩).2 = ⟨14, ki, ks, false, false, false, false, 0, 0, d0, d1, d2, d3, d4, d5, d6, co, 0, 0, 0, 0⟩ ∧ lnA (setL (putR 4 (putR 1 (putR 2 [] 1 ki) 3 ks) 4 co) 0 (headE 14 false false false false 0 0 0)) = lnA (stM ⟨14, ki, ks, false, false, false, false, 0, 0, d0, d1, d2, d3, d4, d5, d6, co, 0, 0, 0, 0⟩).2 := by
  rw [dataU_iff] at hdu
  have f3 : fitB 3 ki = true := by rw [fit3]; simp [inB]; omega
  have f2 : fitB 2 ks = true := by rw [fit2]; simp [inB]; omega
  have hk : ki % 256 + 256 * (ki / 256 % 256) = ki := by omega
  have hs : ks % 256 = ks := by omega
  have f4 : fitB 4 co = true := by rw [fit4]; simp [inB]; omega
  have hc : co % 256 + 256 * (co / 256 % 256) + 65536 * (co / 256 / 256 % 256) + 16777216 * (co / 256 / 256 / 256 % 256) = co := by omega
  simp at hdu
  obtain ⟨rfl, rfl, rfl, rfl, rfl, rfl, rfl⟩ := hdu
  have hd : headE 14 false false false false 0 0 0 = 128 := rfl
  have e : (stM ⟨14, ki, ks, false, false, false, false, 0, 0, 0, 0, 0, 0, 0, 0, 0, co, 0, 0, 0, 0⟩).2 = [128, ki % 256, ki / 256 % 256, ks % 256, co % 256, co / 256 % 256, co / 256 / 256 % 256, co / 256 / 256 / 256 % 256] := by
    show (restE 14 ki ks false 0 0 (dL 0 0 0 0 0 0 0) co 0 0 0 (wN 2 (headE 14 false false false false 0 0 0) (0, []))).2 = _
    rw [hd, wN_first (by omega) (by omega)]
    show ((wN 4 co (wN 2 ks (wN 3 ki (0, [128]))))).2 = _
    rw [wN_yes f3, wN_yes f2, wN_yes f4]
    first | (simp only [pl2, pl3, pq4, List.cons_append, List.nil_append]; done) | (simp only [pl2, pl3, pq4, List.cons_append, List.nil_append]; rfl) | rfl
  rw [e, hd]
  refine ⟨?_, rfl⟩
  show (⟨14, ki % 256 + 256 * (ki / 256 % 256), ks % 256, false, false, false, false, 0, 0, 0, 0, 0, 0, 0, 0, 0, co % 256 + 256 * (co / 256 % 256) + 65536 * (co / 256 / 256 % 256) + 16777216 * (co / 256 / 256 / 256 % 256), 0, 0, 0, 0⟩ : Ms) = _
  (rw [hk, hs, hc])
theorem gl_15 (sq bl d0 d1 d2 d3 d4 d5 d6 : Int) (hsq : 0 ≤ sq ∧ sq ≤ 127) (hbl : 1 ≤ bl ∧ bl ≤ 127) (hdu : dataU 0 (dL d0 d1 d2 d3 d4 d5 d6) = true) : getM 15 (stM ⟨15, 0, 0, false, false, false, false, 0, 0, d0, d1, d2, d3, d4, d5, d6, 0, sq, bl, 0, 0⟩).2 = ⟨15, 0, 0, false, false, false, false, 0, 0, d0, d1, d2, d3, d4, d5, d6, 0, sq, bl, 0, 0⟩ ∧ lnA (setL (putR 1 (putR 1 [] 1 sq) 2 bl) 0 (headE 15 false false false false 0 0 0)) = lnA (stM ⟨15, 0, 0, false, false, false, false, 0, 0, d0, d1, d2, d3, d4, d5, d6, 0, sq, bl, 0, 0⟩).2 := by
  rw [dataU_iff] at hdu
  have fb : fitB 2 bl = true := by rw [fit2]; simp [inB]; omega
  have hb : bl % 256 = bl := by omega
  have fq : fitB 2 sq = true := by rw [fit2]; simp [inB]; omega
  have hq : sq % 256 = sq := by omega
  simp at hdu
  obtain ⟨rfl, rfl, rfl, rfl, rfl, rfl, rfl⟩ := hdu
  have hd : headE 15 false false false false 0 0 0 = 162 := rfl
  have e : (stM ⟨15, 0, 0, false, false, false, false, 0, 0, 0, 0, 0, 0, 0, 0, 0, 0, sq, bl, 0, 0⟩).2 = [162, sq % 256, bl % 256] := by
    show (restE 15 0 0 false 0 0 (dL 0 0 0 0 0 0 0) 0 sq bl 0 (wN 2 (headE 15 false false false false 0 0 0) (0, []))).2 = _
    rw [hd, wN_first (by omega) (by omega)]
    show ((wN 2 bl (wN 2 sq (0, [162])))).2 = _
    rw [wN_yes fq, wN_yes fb]
    first | (simp only [pl2, pl3, pq4, List.cons_append, List.nil_append]; done) | (simp only [pl2, pl3, pq4, List.cons_append, List.nil_append]; rfl) | rfl
  rw [e, hd]
  refine ⟨?_, rfl⟩
  show (⟨15, 0, 0, false, false, false, false, 0, 0, 0, 0, 0, 0, 0, 0, 0, 0, sq % 256, bl % 256, 0, 0⟩ : Ms) = _
  (rw [hq, hb])
theorem gl_16 (sp cr d0 d1 d2 d3 d4 d5 d6 : Int) (hsp : 0 ≤ sp ∧ sp ≤ 7) (hcr : 0 ≤ cr ∧ cr ≤ 65535) (hdu : dataU 0 (dL d0 d1 d2 d3 d4 d5 d6) = true) : getM 16 (stM ⟨16, 0, 0, false, false, false, false, 0, 0, d0, d1, d2, d3, d4, d5, d6, 0, 0, 0, sp, cr⟩).2 = ⟨16, 0, 0, false, false, false, false, 0, 0, d0, d1, d2, d3, d4, d5, d6, 0, 0, 0, sp, cr⟩ ∧ lnA (setL (putR 2 [] 1 cr) 0 (headE 16 false false false false 0 0 sp)) = lnA (stM ⟨16, 0, 0, false, false, false, false, 0, 0, d0, d1, d2, d3, d4, d5, d6, 0, 0, 0, sp, cr⟩).2 := by
  rw [dataU_iff] at hdu
  have fc : fitB 3 cr = true := by rw [fit3]; simp [inB]; omega
  have hc : cr % 256 + 256 * (cr / 256 % 256) = cr := by omega
  have hp : (193 + sp * 4) / 4 % 8 = sp := by omega
  simp at hdu
  obtain ⟨rfl, rfl, rfl, rfl, rfl, rfl, rfl⟩ := hdu
  have hd : headE 16 false false false false 0 0 sp = (193 + sp * 4) := rfl
  have e : (stM ⟨16, 0, 0, false, false, false, false, 0, 0, 0, 0, 0, 0, 0, 0, 0, 0, 0, 0, sp, cr⟩).2 = [(193 + sp * 4), cr % 256, cr / 256 % 256] := by
    show (restE 16 0 0 false 0 0 (dL 0 0 0 0 0 0 0) 0 0 0 cr (wN 2 (headE 16 false false false false 0 0 sp) (0, []))).2 = _
    rw [hd, wN_first (by omega) (by omega)]
    show ((wN 3 cr (0, [(193 + sp * 4)]))).2 = _
    rw [wN_yes fc]
    first | (simp only [pl2, pl3, pq4, List.cons_append, List.nil_append]; done) | (simp only [pl2, pl3, pq4, List.cons_append, List.nil_append]; rfl) | rfl
  rw [e, hd]
  refine ⟨?_, rfl⟩
  show (⟨16, 0, 0, false, false, false, false, 0, 0, 0, 0, 0, 0, 0, 0, 0, 0, 0, 0, (193 + sp * 4) / 4 % 8, cr % 256 + 256 * (cr / 256 % 256)⟩ : Ms) = _
  (rw [hp, hc])
theorem gl_17 (d0 d1 d2 d3 d4 d5 d6 : Int)  (hdu : dataU 0 (dL d0 d1 d2 d3 d4 d5 d6) = true) : getM 17 (stM ⟨17, 0, 0, false, false, false, false, 0, 0, d0, d1, d2, d3, d4, d5, d6, 0, 0, 0, 0, 0⟩).2 = ⟨17, 0, 0, false, false, false, false, 0, 0, d0, d1, d2, d3, d4, d5, d6, 0, 0, 0, 0, 0⟩ ∧ lnA (setL [] 0 (headE 17 false false false false 0 0 0)) = lnA (stM ⟨17, 0, 0, false, false, false, false, 0, 0, d0, d1, d2, d3, d4, d5, d6, 0, 0, 0, 0, 0⟩).2 := by
  rw [dataU_iff] at hdu
  simp at hdu
  obtain ⟨rfl, rfl, rfl, rfl, rfl, rfl, rfl⟩ := hdu
  exact ⟨rfl, rfl⟩
end Go.Proofs.Ytoamgdcjmkkmfaa
