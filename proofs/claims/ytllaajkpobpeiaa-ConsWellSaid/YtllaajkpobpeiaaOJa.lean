/- pair: Like and Unlike, both sides. -/
import Derived.Test.YtllaajkpobpeiaaOJm
import Derived.Deep.QuietTactic
import Derived.BigQuiet
import Derived.Deep.LoopGhost
namespace Go.Proofs.Ytllaajkpobpeiaa
open Go.RowKit
set_option linter.unusedSimpArgs false
set_option linter.unusedVariables false
theorem kF {a w w' : World} (k : Below w.heap.size w w') (h : Below a.heap.size a w) : Below a.heap.size a w' := h.trans (k.mono h.size)
theorem kD (w : World) : Below w.heap.size w w.drew := below_drewN (Below.refl _ w) 1
set_option maxRecDepth 100000 in
theorem ones_nat (n : Nat) (w : World) (h : n < 256) : Calls Try.prog 98 #[.int .u8 (n : Int)] w fun e w' => e = .returned (.int .i64 (popE (n : Int))) ∧ w = w' := by
  have h1 : (n : Int) ≤ 255 := by omega
  go_enter Try.func98, Try.ntmps98
  go_wp2_with fail
  go_ret
  refine ⟨congrArg (fun v => Ending.returned (Value.int IntKind.i64 v)) ?_, rfl⟩
  clear w
  revert h1
  revert n
  decide +kernel
theorem bit_any (x y : Int) (w : World) (hx : 0 ≤ x ∧ x ≤ 255) (hy : 0 ≤ y ∧ y ≤ 255) : Calls Try.prog 97 #[.int .u8 x, .int .u8 y] w fun e w' => e = .returned (.int .i64 (cbN x y 8)) ∧ w = w' := by
  have hz : 0 ≤ bits .xor .u8 x y ∧ bits .xor .u8 x y ≤ 255 := by
    obtain ⟨n, rfl⟩ := Int.eq_ofNat_of_zero_le hx.1
    obtain ⟨m, rfl⟩ := Int.eq_ofNat_of_zero_le hy.1
    rw [u8_xor_nat _ _ (by omega) (by omega)]
    have hk : n ^^^ m < 2 ^ 8 := Nat.xor_lt_two_pow (by omega) (by omega)
    omega
  rw [cbN_pop hx hy]
  obtain ⟨z, hzz⟩ : ∃ z, bits .xor .u8 x y = z := ⟨_, rfl⟩
  rw [hzz] at hz ⊢
  have hsg : IntKind.u8.signed = false := rfl
  obtain ⟨n, hn⟩ := Int.eq_ofNat_of_zero_le (show 0 ≤ 255 - z by omega)
  have e1 : bits .xor .u8 IntKind.u8.max z = 255 - z := not_u8 z hz.1 hz.2
  have HO := Lib.hid (fun w => ones_nat n w (by omega))
  rw [← hn] at HO
  clear hn hz
  generalize popE (255 - z) = P at *
  go_enter Try.func97, Try.ntmps97
  go_wp2_with (go_at_call 98; refine (HO.out _).mono ?_; rintro e w2 ⟨rfl, rfl⟩)
  go_ret
  exact ⟨rfl, rfl⟩
set_option maxHeartbeats 1000000 in
theorem sum_any (w : World) (A A2 : Option Addr) (n c n2 c2 : Nat) (l s : List Int) (h : Byt w w.heap.size A n c l) (g : Byt w w.heap.size A2 n2 c2 s) (hn : n ≤ 1000) (hn2 : n2 ≤ 1000) :
    Calls Try.prog 96 #[.slice A n c, .slice A2 n2 c2, .func (Fn.func 97) #[] #[]] w fun e w' => e = .returned (.int .i64 (uN l s (min n n2))) ∧ Below w.heap.size w w' := by
  have HH := Lib.hid h
  have HG := Lib.hid g
  obtain ⟨lm, hlm⟩ : ∃ m, min n n2 = m := ⟨_, rfl⟩
  have hml : (if (n2 : Int) < (n : Int) then (n2 : Int) else (n : Int)) = (lm : Int) := by rw [← hlm]; split <;> omega
  have hml2 : (if n2 < n then (n2 : Int) else (n : Int)) = (lm : Int) := by rw [← hlm]; split <;> omega
  rw [hlm]
  have hlm1 : lm ≤ 1000 := by omega
  have HLM := Lib.hid hlm
  clear h g hlm
  go_enter Try.func96, Try.ntmps96
  go_wp2_with fail
  clear hml hml2
  go_loopw [7, 14] (fun cnt i wr => ∃ (p : Nat) (q : Int), p ≤ lm ∧ cnt = .int .i64 q ∧ i = .int .i64 p ∧ Hid (q = uN l s p) ∧ Hid (Below w.heap.size w wr)) (fun _ i _ => 2000 - (intOf i).toNat)
  case atStart => exact ⟨0, 0, by omega, rfl, rfl, Lib.hid rfl, Lib.hid (Below.refl _ _)⟩
  case round =>
    obtain ⟨p, q, hp, rfl, rfl, HQ, HB⟩ := hrel
    by_cases hlt : p < lm
    · have hp1 : p < n := by have := HLM.out; omega
      have hp2 : p < n2 := by have := HLM.out; omega
      obtain ⟨b1, o1, rfl, hb1, hc1⟩ := HH.out.cells (by omega)
      obtain ⟨b2, o2, rfl, hb2, hc2⟩ := HG.out.cells (by omega)
      have d1 := (HB.out.cell (p := ⟨b1, o1 + p, none⟩) hb1).trans (hc1 p hp1)
      have d2 := (HB.out.cell (p := ⟨b2, o2 + p, none⟩) hb2).trans (hc2 p hp2)
      have HBI := Lib.hid (fun w => bit_any _ _ w (HH.out.range p) (HG.out.range p))
      have hqr := uN_range l s p
      have hcr := cbN_range (l.getD p 0) (s.getD p 0) 8
      rw [← HQ.out] at hqr
      have HN := Lib.hid (show q + cbN (l.getD p 0) (s.getD p 0) 8 = uN l s (p + 1) by rw [HQ.out]; rfl)
      clear HQ hc1 hc2
      generalize l.getD p 0 = x at *
      generalize s.getD p 0 = y at *
      generalize cbN x y 8 = z at *
      have i1 : (p : Int) < (n : Int) := by omega
      have i2 : (p : Int) < (n2 : Int) := by omega
      have hpl : (p : Int) < (lm : Int) := by omega
      have e1 : IntKind.i64.wrap (q + z) = q + z := IntWalk.i64_in _ (by omega)
      clear hqr hcr hb1 hb2
      go_wp2_with fail
      have y0 : wr.drew.cell? ⟨b1, o1 + p, none⟩ = some (.int .u8 x) ∧ wr.drew.cell? ⟨b2, o2 + p, none⟩ = some (.int .u8 y) := ⟨d1, d2⟩
      go_region_held3 (fun w8 => w8.cell? ⟨b1, o1 + p, none⟩ = some (.int .u8 x) ∧ w8.cell? ⟨b2, o2 + p, none⟩ = some (.int .u8 y)) (first | exact y0 | exact y0)
        (first | (go_at_call 97; (with_reducible refine (HBI.out _).mono ?_); rintro e w6 ⟨rfl, rfl⟩))
      all_goals
        go_wp2_with fail
        exact ⟨⟨p + 1, q + z, by omega, rfl, by go_num, HN, Lib.hid (kF (kD _) HB.out)⟩, by simp [intOf]; omega⟩
    · obtain rfl : p = lm := by omega
      go_wp2_with fail
      go_ret
      exact ⟨by rw [← HQ.out]; rfl, HB.out⟩
theorem un_any (w : World) (A A2 : Option Addr) (n c n2 c2 : Nat) (l s : List Int) (h : Byt w w.heap.size A n c l) (g : Byt w w.heap.size A2 n2 c2 s) (hn : n ≤ 1000) (hn2 : n2 ≤ 1000) :
    Calls Try.prog 95 #[.slice A n c, .slice A2 n2 c2] w fun e w' => e = .returned (.int .i64 (uN l s (min n n2))) ∧ Below w.heap.size w w' := by
  have HS := Lib.hid (sum_any w A A2 n c n2 c2 l s h g hn hn2)
  clear h g
  go_enter Try.func95, Try.ntmps95
  go_wp2_with (go_at_call 96; refine (HS.out).mono ?_; rintro e w2 ⟨rfl, hb⟩; have HB := Lib.hid hb; clear hb)
  go_ret
  exact ⟨rfl, HB.out⟩
theorem like_any (w : World) (A A2 : Option Addr) (n c n2 c2 : Nat) (l s : List Int) (h : Byt w w.heap.size A n c l) (g : Byt w w.heap.size A2 n2 c2 s) (hn : n ≤ 1000) (hn2 : n2 ≤ 1000) :
    Calls Try.prog 93 #[.slice A n c, .slice A2 n2 c2] w fun e w' => e = .returned (.bool (lkB l s)) ∧ Below w.heap.size w w' := by
  have HS := Lib.hid (un_any w A A2 n c n2 c2 l s h g hn hn2)
  have hl := h.len
  have hs := g.len
  by_cases hne : n = n2
  · subst hne
    have hk := lkB_uN h.rng g.rng (by omega)
    rw [hl] at hk
    rw [Nat.min_self] at HS
    rw [hk]
    clear hk h g hl hs
    generalize uN l s n = z at *
    by_cases hz : z = 0
    · have hz1 : (z == 0) = true := by simpa using hz
      rw [decide_eq_true hz]
      clear hz
      go_enter Try.func93, Try.ntmps93
      go_wp2_with (go_at_call 95; refine (HS.out).mono ?_; rintro e w2 ⟨rfl, hb⟩; have HB := Lib.hid hb; clear hb)
      go_ret
      exact ⟨rfl, HB.out⟩
    · have hz1 : (z == 0) = false := by simpa using hz
      rw [decide_eq_false hz]
      clear hz
      go_enter Try.func93, Try.ntmps93
      go_wp2_with (go_at_call 95; refine (HS.out).mono ?_; rintro e w2 ⟨rfl, hb⟩; have HB := Lib.hid hb; clear hb)
      go_ret
      exact ⟨rfl, HB.out⟩
  · rw [lkB_len (by omega)]
    have hne1 : ((n : Int) == (n2 : Int)) = false := by simp; omega
    clear HS h g hl hs
    go_enter Try.func93, Try.ntmps93
    go_wp2_with fail
    go_ret
    exact ⟨rfl, Below.refl _ _⟩
end Go.Proofs.Ytllaajkpobpeiaa