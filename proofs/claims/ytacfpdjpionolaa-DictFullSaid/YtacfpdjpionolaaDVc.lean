/- What is wrong with bytes, for a spec, and which number they are: what package value answers. -/
import Derived.Test.YtacfpdjpionolaaDVb
namespace Go.Proofs.Ytacfpdjpionolaa
open Go.RowKit
set_option linter.unusedSimpArgs false
set_option linter.unusedVariables false
def lenA (n lo hi : Int) : Int := if n < lo then 101122067 else if hi < n then 101122066 else 0
def fitsA (k a lo hi : Int) (l : List Int) : Int :=
  if mayB k a lo hi = false then 134217728 else if k = 8 then lenA l.length lo hi
  else if ¬ lenA l.length (kSize k) (kSize k) = 0 then lenA l.length (kSize k) (kSize k)
  else if ¬ getE k l = 0 then 101253168 else if hi < getN k l then 101253169 else if getN k l < lo then 101253170 else 0

theorem length_any (A : Option Addr) (n c : Nat) (lo hi : Int) (w : World) (hc : n ≤ 9223372036854775807) : Calls Try.prog 74 #[.slice A n c, .int .i64 lo, .int .i64 hi] w fun e w' => e = .returned (.int .i64 (lenA n lo hi)) ∧ w = w' := by
  by_cases h1 : (n : Int) < lo
  · have e : lenA n lo hi = 101122067 := if_pos h1
    rw [e]
    clear e
    go_enter Try.func74, Try.ntmps74
    go_wp2
    go_ret
    exact ⟨rfl, rfl⟩
  by_cases h2 : hi < (n : Int)
  · have e : lenA n lo hi = 101122066 := by unfold lenA; rw [if_neg h1, if_pos h2]
    rw [e]
    clear e
    go_enter Try.func74, Try.ntmps74
    go_wp2
    go_ret
    exact ⟨rfl, rfl⟩
  · have e : lenA n lo hi = 0 := by unfold lenA; rw [if_neg h1, if_neg h2]
    rw [e]
    clear e
    go_enter Try.func74, Try.ntmps74
    go_wp2
    go_ret
    exact ⟨rfl, rfl⟩
theorem byt_max {w : World} {B n c : Nat} {A : Option Addr} {l : List Int} (h : Byt w B A n c l) : n ≤ 9223372036854775807 := by
  have h1 := h.cap
  have h2 := h.max
  simp only [maxLen] at h2
  omega
theorem Byt.low {w w' : World} {n c : Nat} {A : Option Addr} {l : List Int} (h : Byt w w.heap.size A n c l) (hb : Below w.heap.size w w') : Byt w' w'.heap.size A n c l := (h.below hb).more hb.size
theorem vfits_any (k a lo hi : Int) (w : World) (A : Option Addr) (n c : Nat) (l : List Int) (h : Byt w w.heap.size A n c l) : Calls Try.prog 50 #[.agg #[.int .i64 k, .int .i64 a, .int .i64 lo, .int .i64 hi], .slice A n c] w fun e w' => e = .returned (.int .i64 (fitsA k a lo hi l)) ∧ Below w.heap.size w w' := by
  have hm := fun w => may_any k a lo hi w
  have hl := h.len
  have hx := byt_max h
  have HX0 := Lib.hid (Bx4.start w k a lo hi 35)
  by_cases h0 : mayB k a lo hi = false
  · rw [h0] at hm
    have e : fitsA k a lo hi l = 134217728 := if_pos h0
    rw [e]
    have HM := Lib.hid hm
    clear hm e h0 h hl hx
    go_enter Try.func50, Try.ntmps50
    go_wp2_with (first | (go_at_call 55; refine (HM.out _).mono ?_; rintro e w1 ⟨rfl, hb1⟩; have HX1 := Lib.hid (HX0.out.step hb1); obtain ⟨c0, c1, c2, c3, -, -⟩ := HX1.out))
    go_ret
    exact ⟨rfl, HX1.out.blw⟩
  have h1 : mayB k a lo hi = true := by simpa using h0
  rw [h1] at hm
  have HM := Lib.hid hm
  by_cases h8 : k = 8
  · subst h8
    have e : fitsA 8 a lo hi l = lenA n lo hi := by unfold fitsA; rw [if_neg h0, if_pos rfl, hl]
    rw [e]
    have HN := Lib.hid (fun w => length_any A n c lo hi w hx)
    clear hm e h0 h1 h hl hx
    go_enter Try.func50, Try.ntmps50
    go_wp2_with (first | (go_at_call 55; refine (HM.out _).mono ?_; rintro e w1 ⟨rfl, hb1⟩; have HX1 := Lib.hid (HX0.out.step hb1); obtain ⟨c0, c1, c2, c3, -, -⟩ := HX1.out) | (go_at_call 74; refine (HN.out _).mono ?_; rintro e w3 ⟨rfl, rfl⟩))
    go_ret
    exact ⟨rfl, HX1.out.blw⟩
  have hd8 : (k == 8) = false := by simp [h8]
  have HS := Lib.hid (fun w => size_any k w)
  have hN := fun w => length_any A n c (kSize k) (kSize k) w hx
  have e0 : fitsA k a lo hi l = if ¬ lenA n (kSize k) (kSize k) = 0 then lenA n (kSize k) (kSize k) else if ¬ getE k l = 0 then 101253168 else if hi < getN k l then 101253169 else if getN k l < lo then 101253170 else 0 := by unfold fitsA; rw [if_neg h0, if_neg h8, hl]
  rw [e0]
  clear e0
  have hkb := k_bounds k
  have HKB := Lib.hid hkb
  generalize lenA n (kSize k) (kSize k) = q at hN ⊢
  have HN := Lib.hid hN
  by_cases hq : q = 0
  · subst hq
    rw [if_neg (by simp)]
    have hg := fun (w' : World) (hb : Below w.heap.size w w') => get_any k w' A n c l (h.low hb)
    unfold GetPost at hg
    generalize getE k l = E at hg ⊢
    generalize getN k l = N at hg ⊢
    have HG := Lib.hid hg
    clear hg
    by_cases hE : E = 0
    · subst hE
      rw [if_neg (by simp)]
      by_cases h3 : hi < N
      · rw [if_pos h3]
        clear hm h0 h1 h hl hx hN hkb
        go_enter Try.func50, Try.ntmps50
        go_wp2_with (first | (go_at_call 55; refine (HM.out _).mono ?_; rintro e w1 ⟨rfl, hb1⟩; have HX1 := Lib.hid (HX0.out.step hb1); obtain ⟨c0, c1, c2, c3, -, -⟩ := HX1.out) | (go_at_call 75; refine (HS.out _).mono ?_; rintro e w2 ⟨rfl, hb2⟩; have HX2 := Lib.hid (HX1.out.step hb2); obtain ⟨c0, c1, c2, c3, -, -⟩ := HX2.out) | (go_at_call 74; refine (HN.out _).mono ?_; rintro e w3 ⟨rfl, rfl⟩) | (go_at_call 68; refine (HG.out _ HX2.out.blw).mono ?_; rintro e w4 ⟨rfl, hb4⟩; have HX4 := Lib.hid (HX2.out.step hb4); obtain ⟨c0, c1, c2, c3, -, -⟩ := HX4.out))
        go_ret
        exact ⟨rfl, HX4.out.blw⟩
      · rw [if_neg h3]
        by_cases h4 : N < lo
        · rw [if_pos h4]
          clear hm h0 h1 h hl hx hN hkb
          go_enter Try.func50, Try.ntmps50
          go_wp2_with (first | (go_at_call 55; refine (HM.out _).mono ?_; rintro e w1 ⟨rfl, hb1⟩; have HX1 := Lib.hid (HX0.out.step hb1); obtain ⟨c0, c1, c2, c3, -, -⟩ := HX1.out) | (go_at_call 75; refine (HS.out _).mono ?_; rintro e w2 ⟨rfl, hb2⟩; have HX2 := Lib.hid (HX1.out.step hb2); obtain ⟨c0, c1, c2, c3, -, -⟩ := HX2.out) | (go_at_call 74; refine (HN.out _).mono ?_; rintro e w3 ⟨rfl, rfl⟩) | (go_at_call 68; refine (HG.out _ HX2.out.blw).mono ?_; rintro e w4 ⟨rfl, hb4⟩; have HX4 := Lib.hid (HX2.out.step hb4); obtain ⟨c0, c1, c2, c3, -, -⟩ := HX4.out))
          go_ret
          exact ⟨rfl, HX4.out.blw⟩
        · rw [if_neg h4]
          clear hm h0 h1 h hl hx hN hkb
          go_enter Try.func50, Try.ntmps50
          go_wp2_with (first | (go_at_call 55; refine (HM.out _).mono ?_; rintro e w1 ⟨rfl, hb1⟩; have HX1 := Lib.hid (HX0.out.step hb1); obtain ⟨c0, c1, c2, c3, -, -⟩ := HX1.out) | (go_at_call 75; refine (HS.out _).mono ?_; rintro e w2 ⟨rfl, hb2⟩; have HX2 := Lib.hid (HX1.out.step hb2); obtain ⟨c0, c1, c2, c3, -, -⟩ := HX2.out) | (go_at_call 74; refine (HN.out _).mono ?_; rintro e w3 ⟨rfl, rfl⟩) | (go_at_call 68; refine (HG.out _ HX2.out.blw).mono ?_; rintro e w4 ⟨rfl, hb4⟩; have HX4 := Lib.hid (HX2.out.step hb4); obtain ⟨c0, c1, c2, c3, -, -⟩ := HX4.out))
          go_ret
          exact ⟨rfl, HX4.out.blw⟩
    · rw [if_pos hE]
      have hdE : (E != 0) = true := by simp [hE]
      clear hm h0 h1 h hl hx hN hkb
      go_enter Try.func50, Try.ntmps50
      go_wp2_with (first | (go_at_call 55; refine (HM.out _).mono ?_; rintro e w1 ⟨rfl, hb1⟩; have HX1 := Lib.hid (HX0.out.step hb1); obtain ⟨c0, c1, c2, c3, -, -⟩ := HX1.out) | (go_at_call 75; refine (HS.out _).mono ?_; rintro e w2 ⟨rfl, hb2⟩; have HX2 := Lib.hid (HX1.out.step hb2); obtain ⟨c0, c1, c2, c3, -, -⟩ := HX2.out) | (go_at_call 74; refine (HN.out _).mono ?_; rintro e w3 ⟨rfl, rfl⟩) | (go_at_call 68; refine (HG.out _ HX2.out.blw).mono ?_; rintro e w4 ⟨rfl, hb4⟩; have HX4 := Lib.hid (HX2.out.step hb4); obtain ⟨c0, c1, c2, c3, -, -⟩ := HX4.out))
      go_ret
      exact ⟨rfl, HX4.out.blw⟩
  · rw [if_pos hq]
    have hdq : (q != 0) = true := by simp [hq]
    clear hm h0 h1 h hl hx hN hkb
    go_enter Try.func50, Try.ntmps50
    go_wp2_with (first | (go_at_call 55; refine (HM.out _).mono ?_; rintro e w1 ⟨rfl, hb1⟩; have HX1 := Lib.hid (HX0.out.step hb1); obtain ⟨c0, c1, c2, c3, -, -⟩ := HX1.out) | (go_at_call 75; refine (HS.out _).mono ?_; rintro e w2 ⟨rfl, hb2⟩; have HX2 := Lib.hid (HX1.out.step hb2); obtain ⟨c0, c1, c2, c3, -, -⟩ := HX2.out) | (go_at_call 74; refine (HN.out _).mono ?_; rintro e w3 ⟨rfl, rfl⟩))
    go_ret
    exact ⟨rfl, HX2.out.blw⟩

def numN (k a lo hi : Int) (l : List Int) : Int := if fitsA k a lo hi l = 0 then getN k l else 0
def numB (k a lo hi : Int) (l : List Int) : Bool := decide (fitsA k a lo hi l = 0 ∧ getE k l = 0)
theorem vnum_any (k a lo hi : Int) (w : World) (A : Option Addr) (n c : Nat) (l : List Int) (h : Byt w w.heap.size A n c l) : Calls Try.prog 41 #[.agg #[.int .i64 k, .int .i64 a, .int .i64 lo, .int .i64 hi], .slice A n c] w fun e w' => e = .returned (.tuple #[.int .i64 (numN k a lo hi l), .bool (numB k a lo hi l)]) ∧ Below w.heap.size w w' := by
  have hf := fun (w' : World) (hb : Below w.heap.size w w') => vfits_any k a lo hi w' A n c l (h.low hb)
  have hg := fun (w' : World) (hb : Below w.heap.size w w') => get_any k w' A n c l (h.low hb)
  unfold GetPost at hg
  have HX0 := Lib.hid (Bx4.start w k a lo hi 35)
  have HG := Lib.hid hg
  unfold numN numB
  generalize fitsA k a lo hi l = F at hf ⊢
  have HF := Lib.hid hf
  by_cases h0 : F = 0
  · subst h0
    rw [if_pos rfl]
    have e : decide ((0 : Int) = 0 ∧ getE k l = 0) = (getE k l == 0) := by rw [Bool.eq_iff_iff]; simp
    rw [e]
    clear e h hf hg
    generalize getE k l = E at HG ⊢
    generalize getN k l = N at HG ⊢
    go_enter Try.func41, Try.ntmps41
    go_wp2_with (first | (go_at_call 50; refine (HF.out _ HX0.out.blw).mono ?_; rintro e w1 ⟨rfl, hb1⟩; have HX1 := Lib.hid (HX0.out.step hb1); obtain ⟨c0, c1, c2, c3, -, -⟩ := HX1.out) | (go_at_call 68; refine (HG.out _ HX1.out.blw).mono ?_; rintro e w4 ⟨rfl, hb4⟩; have HX4 := Lib.hid (HX1.out.step hb4)))
    go_ret2
    exact ⟨rfl, HX4.out.blw⟩
  · rw [if_neg h0]
    have e : decide (F = 0 ∧ getE k l = 0) = false := by simp [h0]
    have hd : (F != 0) = true := by simp [h0]
    rw [e]
    clear e h hf hg h0
    go_enter Try.func41, Try.ntmps41
    go_wp2_with (go_at_call 50; refine (HF.out _ HX0.out.blw).mono ?_; rintro e w1 ⟨rfl, hb1⟩; have HX1 := Lib.hid (HX0.out.step hb1))
    go_ret2
    exact ⟨rfl, HX1.out.blw⟩
end Go.Proofs.Ytacfpdjpionolaa