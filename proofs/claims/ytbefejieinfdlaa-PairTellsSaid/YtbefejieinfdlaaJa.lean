/- pair: Like and Unlike, both sides. -/
import Derived.Test.YtbefejieinfdlaaJm
import Derived.Deep.QuietTactic
import Derived.BigQuiet
import Derived.Deep.LoopGhost
namespace Go.Proofs.Ytbefejieinfdlaa
open Go.RowKit
set_option linter.unusedSimpArgs false
set_option linter.unusedVariables false

theorem kF {a w w' : World} (k : Below w.heap.size w w') (h : Below a.heap.size a w) : Below a.heap.size a w' := h.trans (k.mono h.size)
theorem kD (w : World) : Below w.heap.size w w.drew := below_drewN (Below.refl _ w) 1
set_option maxRecDepth 100000 in
theorem ones_nat (n : Nat) (w : World) (h : n < 256) : Calls Try.prog 31 #[.int .u8 (n : Int)] w fun e w' => e = .returned (.int .i64 (popE (n : Int))) ∧ w = w' := by
  have h1 : (n : Int) ≤ 255 := by omega
  go_enter Try.func31, Try.ntmps31
  go_wp2_with fail
  go_ret
  refine ⟨congrArg (fun v => Ending.returned (Value.int IntKind.i64 v)) ?_, rfl⟩
  clear w
  revert h1
  revert n
  decide +kernel
theorem ru_any (w : World) (A A2 : Option Addr) (n c n2 c2 : Nat) (l s : List Int) (h : Byt w w.heap.size A n c l) (g : Byt w w.heap.size A2 n2 c2 s) (hn : n ≤ 1000) (hn2 : n2 ≤ 1000) :
    Calls Try.prog 10 #[.slice A n c, .slice A2 n2 c2] w fun e w' => e = .returned (.int .i64 (uN l s (min n n2))) ∧ Below w.heap.size w w' := by
  have HH := Lib.hid h
  have HG := Lib.hid g
  obtain ⟨lm, hlm⟩ : ∃ m, min n n2 = m := ⟨_, rfl⟩
  rw [hlm]
  have hlm1 : lm ≤ 1000 := by omega
  have HLM := Lib.hid hlm
  clear h g hlm
  go_enter Try.func10, Try.ntmps10
  go_wp2_with fail
  go_loopw [5, 6] (fun cnt i wr => ∃ (p : Nat) (q : Int), p ≤ lm ∧ cnt = .int .i64 q ∧ i = .int .i64 p ∧ Hid (q = uN l s p) ∧ Hid (Below w.heap.size w wr)) (fun _ i _ => 2000 - (intOf i).toNat)
  case atStart => exact ⟨0, 0, by omega, rfl, rfl, Lib.hid rfl, Lib.hid (Below.refl _ _)⟩
  case round =>
    obtain ⟨p, q, hp, rfl, rfl, HQ, HB⟩ := hrel
    by_cases hlt : p < lm
    · have hp1 : p < n := by have := HLM.out; omega
      have hp2 : p < n2 := by have := HLM.out; omega
      obtain ⟨b1, o1, rfl, hb1, hc1⟩ := HH.out.cells (by omega)
      obtain ⟨b2, o2, rfl, hb2, hc2⟩ := HG.out.cells (by omega)
      have HD1 := Lib.hid (fun (wr : World) (hb : Below w.heap.size w wr) => (hb.cell (p := ⟨b1, o1 + p, none⟩) hb1).trans (hc1 p hp1))
      have HD2 := Lib.hid (fun (wr : World) (hb : Below w.heap.size w wr) => (hb.cell (p := ⟨b2, o2 + p, none⟩) hb2).trans (hc2 p hp2))
      have r1 := HH.out.range p
      have r2 := HG.out.range p
      have hqr := uN_range l s p
      rw [← HQ.out] at hqr
      have HN := Lib.hid (show uN l s (p + 1) = q + cbN (l.getD p 0) (s.getD p 0) 8 by rw [HQ.out]; rfl)
      clear HQ
      have c1 := hb1
      have c2 := hb2
      generalize l.getD p 0 = x at *
      generalize s.getD p 0 = y at *
      have i1 : (p : Int) < (n : Int) := by omega
      have i2 : (p : Int) < (n2 : Int) := by omega
      obtain ⟨hq0, hq9⟩ := hqr
      clear hc1 hc2 hb1 hb2 r1 r2 c1 c2
      go_wp2_with fail
      go_loopw [5, 7] (fun cnt k wr => ∃ (j : Nat) (v : Int), j ≤ 8 ∧ cnt = .int .i64 v ∧ k = .int .i64 j ∧ 0 ≤ v ∧ v ≤ q + j ∧ Hid (v = q + cbN x y j) ∧ Hid (Below w.heap.size w wr)) (fun _ k _ => 10 - (intOf k).toNat)
      case atStart => exact ⟨0, q, by omega, rfl, rfl, by omega, by omega, Lib.hid (by simp [cbN]), HB⟩
      case round =>
        clear HB
        obtain ⟨j, v, hj, rfl, rfl, hv0, hv9, HV, HB2⟩ := hrel
        by_cases hj8 : j < 8
        · have d1 := HD1.out _ HB2.out
          have d2 := HD2.out _ HB2.out
          have j8 : (j : Int) < 8 := by omega
          have e1 : IntKind.i64.wrap (v + 1) = v + 1 := IntWalk.i64_in _ (by omega)
          by_cases hE : eqB x y j = true
          · have hE2 : ((x / 2 ^ j).tmod 2 == (y / 2 ^ j).tmod 2) = true := hE
            have HV2 := Lib.hid (show v + 1 = q + cbN x y (j + 1) by
              have e : cbN x y (j + 1) = cbN x y j + (if eqB x y j then 1 else 0) := rfl
              rw [e, if_pos hE, HV.out]; omega)
            clear hE
            go_wp2_with fail
            go_quiet (fail)
            go_wp2_with fail
            exact ⟨⟨j + 1, v + 1, by omega, rfl, by go_num, by omega, by omega, HV2, Lib.hid (below_drewN HB2.out nq)⟩, by simp [intOf]; omega⟩
          · have hE2 : ((x / 2 ^ j).tmod 2 == (y / 2 ^ j).tmod 2) = false := by simpa [eqB] using hE
            have HV2 := Lib.hid (show v = q + cbN x y (j + 1) by
              have e : cbN x y (j + 1) = cbN x y j + (if eqB x y j then 1 else 0) := rfl
              rw [e, if_neg hE, HV.out]; omega)
            clear hE
            go_wp2_with fail
            go_quiet (fail)
            go_wp2_with fail
            exact ⟨⟨j + 1, v, by omega, rfl, by go_num, by omega, by omega, HV2, Lib.hid (below_drewN HB2.out nq)⟩, by simp [intOf]; omega⟩
        · obtain rfl : j = 8 := by omega
          have HV3 := Lib.hid (show v = uN l s (p + 1) by rw [HV.out, HN.out])
          go_wp2_with fail
          exact ⟨⟨p + 1, v, by omega, rfl, by go_num, HV3, HB2⟩, by simp [intOf]; omega⟩
    · obtain rfl : p = lm := by omega
      have hcs : ((n : Int) ≤ (p : Int)) ∨ ((p : Int) < (n : Int) ∧ (n2 : Int) ≤ (p : Int)) := by have := HLM.out; omega
      rcases hcs with hcs | ⟨hcs, hcs2⟩
      all_goals
        go_wp2_with fail
        go_ret
        exact ⟨by rw [← HQ.out]; rfl, HB.out⟩
theorem bit_any (x y : Int) (w : World) (hx : 0 ≤ x ∧ x ≤ 255) (hy : 0 ≤ y ∧ y ≤ 255) : Calls Try.prog 30 #[.int .u8 x, .int .u8 y] w fun e w' => e = .returned (.int .i64 (cbN x y 8)) ∧ w = w' := by
  have hz : 0 ≤ bits .xor .u8 x y ∧ bits .xor .u8 x y ≤ 255 := by
    obtain ⟨n, rfl⟩ := Int.eq_ofNat_of_zero_le hx.1
    obtain ⟨m, rfl⟩ := Int.eq_ofNat_of_zero_le hy.1
    rw [u8_xor_nat _ _ (by omega) (by omega)]
    have hk : n ^^^ m < 2 ^ 8 := Nat.xor_lt_two_pow (by omega) (by omega)
    omega
  rw [cbN_pop hx hy]
  obtain ⟨z, hzz⟩ : ∃ z, bits .xor .u8 x y = z := ⟨_, rfl⟩
  rw [hzz] at hz ⊢
  have hsg : IntKind.u8.signed = false := rfl
  obtain ⟨n, hn⟩ := Int.eq_ofNat_of_zero_le (show 0 ≤ 255 - z by omega)
  have e1 : bits .xor .u8 IntKind.u8.max z = 255 - z := not_u8 z hz.1 hz.2
  have HO := Lib.hid (fun w => ones_nat n w (by omega))
  rw [← hn] at HO
  clear hn hz
  generalize popE (255 - z) = P at *
  go_enter Try.func30, Try.ntmps30
  go_wp2_with (go_at_call 31; refine (HO.out _).mono ?_; rintro e w2 ⟨rfl, rfl⟩)
  go_ret
  exact ⟨rfl, rfl⟩
set_option maxHeartbeats 1000000 in
theorem sum_any (w : World) (A A2 : Option Addr) (n c n2 c2 : Nat) (l s : List Int) (h : Byt w w.heap.size A n c l) (g : Byt w w.heap.size A2 n2 c2 s) (hn : n ≤ 1000) (hn2 : n2 ≤ 1000) :
    Calls Try.prog 29 #[.slice A n c, .slice A2 n2 c2, .func (Fn.func 30) #[] #[]] w fun e w' => e = .returned (.int .i64 (uN l s (min n n2))) ∧ Below w.heap.size w w' := by
  have HH := Lib.hid h
  have HG := Lib.hid g
  obtain ⟨lm, hlm⟩ : ∃ m, min n n2 = m := ⟨_, rfl⟩
  have hml : (if (n2 : Int) < (n : Int) then (n2 : Int) else (n : Int)) = (lm : Int) := by rw [← hlm]; split <;> omega
  have hml2 : (if n2 < n then (n2 : Int) else (n : Int)) = (lm : Int) := by rw [← hlm]; split <;> omega
  rw [hlm]
  have hlm1 : lm ≤ 1000 := by omega
  have HLM := Lib.hid hlm
  clear h g hlm
  go_enter Try.func29, Try.ntmps29
  go_wp2_with fail
  clear hml hml2
  go_loopw [7, 14] (fun cnt i wr => ∃ (p : Nat) (q : Int), p ≤ lm ∧ cnt = .int .i64 q ∧ i = .int .i64 p ∧ Hid (q = uN l s p) ∧ Hid (Below w.heap.size w wr)) (fun _ i _ => 2000 - (intOf i).toNat)
  case atStart => exact ⟨0, 0, by omega, rfl, rfl, Lib.hid rfl, Lib.hid (Below.refl _ _)⟩
  case round =>
    obtain ⟨p, q, hp, rfl, rfl, HQ, HB⟩ := hrel
    by_cases hlt : p < lm
    · have hp1 : p < n := by have := HLM.out; omega
      have hp2 : p < n2 := by have := HLM.out; omega
      obtain ⟨b1, o1, rfl, hb1, hc1⟩ := HH.out.cells (by omega)
      obtain ⟨b2, o2, rfl, hb2, hc2⟩ := HG.out.cells (by omega)
      have d1 := (HB.out.cell (p := ⟨b1, o1 + p, none⟩) hb1).trans (hc1 p hp1)
      have d2 := (HB.out.cell (p := ⟨b2, o2 + p, none⟩) hb2).trans (hc2 p hp2)
      have HBI := Lib.hid (fun w => bit_any _ _ w (HH.out.range p) (HG.out.range p))
      have hqr := uN_range l s p
      have hcr := cbN_range (l.getD p 0) (s.getD p 0) 8
      rw [← HQ.out] at hqr
      have HN := Lib.hid (show q + cbN (l.getD p 0) (s.getD p 0) 8 = uN l s (p + 1) by rw [HQ.out]; rfl)
      clear HQ hc1 hc2
      generalize l.getD p 0 = x at *
      generalize s.getD p 0 = y at *
      generalize cbN x y 8 = z at *
      have i1 : (p : Int) < (n : Int) := by omega
      have i2 : (p : Int) < (n2 : Int) := by omega
      have hpl : (p : Int) < (lm : Int) := by omega
      have e1 : IntKind.i64.wrap (q + z) = q + z := IntWalk.i64_in _ (by omega)
      clear hqr hcr hb1 hb2
      go_wp2_with fail
      have y0 : wr.drew.cell? ⟨b1, o1 + p, none⟩ = some (.int .u8 x) ∧ wr.drew.cell? ⟨b2, o2 + p, none⟩ = some (.int .u8 y) := ⟨d1, d2⟩
      go_region_held3 (fun w8 => w8.cell? ⟨b1, o1 + p, none⟩ = some (.int .u8 x) ∧ w8.cell? ⟨b2, o2 + p, none⟩ = some (.int .u8 y)) (first | exact y0 | exact y0)
        (first | (go_at_call 30; (with_reducible refine (HBI.out _).mono ?_); rintro e w6 ⟨rfl, rfl⟩))
      all_goals
        go_wp2_with fail
        exact ⟨⟨p + 1, q + z, by omega, rfl, by go_num, HN, Lib.hid (kF (kD _) HB.out)⟩, by simp [intOf]; omega⟩
    · obtain rfl : p = lm := by omega
      go_wp2_with fail
      go_ret
      exact ⟨by rw [← HQ.out]; rfl, HB.out⟩
theorem un_any (w : World) (A A2 : Option Addr) (n c n2 c2 : Nat) (l s : List Int) (h : Byt w w.heap.size A n c l) (g : Byt w w.heap.size A2 n2 c2 s) (hn : n ≤ 1000) (hn2 : n2 ≤ 1000) :
    Calls Try.prog 12 #[.slice A n c, .slice A2 n2 c2] w fun e w' => e = .returned (.int .i64 (uN l s (min n n2))) ∧ Below w.heap.size w w' := by
  have HS := Lib.hid (sum_any w A A2 n c n2 c2 l s h g hn hn2)
  clear h g
  go_enter Try.func12, Try.ntmps12
  go_wp2_with (go_at_call 29; refine (HS.out).mono ?_; rintro e w2 ⟨rfl, hb⟩; have HB := Lib.hid hb; clear hb)
  go_ret
  exact ⟨rfl, HB.out⟩
theorem like_any (w : World) (A A2 : Option Addr) (n c n2 c2 : Nat) (l s : List Int) (h : Byt w w.heap.size A n c l) (g : Byt w w.heap.size A2 n2 c2 s) (hn : n ≤ 1000) (hn2 : n2 ≤ 1000) :
    Calls Try.prog 11 #[.slice A n c, .slice A2 n2 c2] w fun e w' => e = .returned (.bool (lkB l s)) ∧ Below w.heap.size w w' := by
  have HS := Lib.hid (un_any w A A2 n c n2 c2 l s h g hn hn2)
  have hl := h.len
  have hs := g.len
  by_cases hne : n = n2
  · subst hne
    have hk := lkB_uN h.rng g.rng (by omega)
    rw [hl] at hk
    rw [Nat.min_self] at HS
    rw [hk]
    clear hk h g hl hs
    generalize uN l s n = z at *
    by_cases hz : z = 0
    · have hz1 : (z == 0) = true := by simpa using hz
      rw [decide_eq_true hz]
      clear hz
      go_enter Try.func11, Try.ntmps11
      go_wp2_with (go_at_call 12; refine (HS.out).mono ?_; rintro e w2 ⟨rfl, hb⟩; have HB := Lib.hid hb; clear hb)
      go_ret
      exact ⟨rfl, HB.out⟩
    · have hz1 : (z == 0) = false := by simpa using hz
      rw [decide_eq_false hz]
      clear hz
      go_enter Try.func11, Try.ntmps11
      go_wp2_with (go_at_call 12; refine (HS.out).mono ?_; rintro e w2 ⟨rfl, hb⟩; have HB := Lib.hid hb; clear hb)
      go_ret
      exact ⟨rfl, HB.out⟩
  · rw [lkB_len (by omega)]
    have hne1 : ((n : Int) == (n2 : Int)) = false := by simp; omega
    clear HS h g hl hs
    go_enter Try.func11, Try.ntmps11
    go_wp2_with fail
    go_ret
    exact ⟨rfl, Below.refl _ _⟩
end Go.Proofs.Ytbefejieinfdlaa
