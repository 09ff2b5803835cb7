/- What the small functions answer that the statements on bits call: one bit, a plain row, whether two rows are the same, how many equal bits a row ends with, and the counter of equal bits. -/
import Derived.Test.YtkgnhmddnfmhjaaProg
import Derived.Test.YtkgnhmddnfmhjaaWBitsMath
namespace Go.Proofs.Ytkgnhmddnfmhjaa
open Go.RowKit
theorem tail_any (w : World) (A : Option Addr) (n c : Nat) (l : List Int) (h : Byt w w.heap.size A n c l) :
    Calls Try.prog 29 #[.slice A n c] w fun e w' => e = .returned (.int .i64 (tailN l)) ∧ Below w.heap.size w w' := by
  have hmn := h.max
  have hcn := h.cap
  simp only [maxLen] at hmn
  rcases Nat.eq_zero_or_pos n with h0 | h0
  · subst h0
    obtain rfl := List.eq_nil_of_length_eq_zero h.len
    have hd : decide ((0 : Int) ≤ -1) = false := by decide
    clear h
    go_enter Try.func29, Try.ntmps29
    go_wp2_with fail
    refine wp_loop_rounds 1 ?_
    rw [rounds_succ]
    go_wp2_with fail
    go_quiet (fail)
    go_wp2
    go_ret
    exact ⟨rfl, below_drewN (Below.refl _ _) _⟩
  · obtain ⟨b, off, rfl, hb, hc⟩ := h.cells h0
    have hl := h.len
    go_enter Try.func29, Try.ntmps29
    go_wp2_with fail
    go_loopw [3, 4] (fun v i wr => ∃ j k : Nat, j ≤ n ∧ v = .int .i64 j ∧ i = .int .i64 ((n : Int) - 1 - j) ∧ (∀ t, t < j → l.getD (n - 1 - t) 0 = l.getD (n - 1) 0) ∧ wr = w.drewN k) (fun v _ _ => n - (intOf v).toNat)
    case atStart => exact ⟨0, 0, Nat.zero_le _, rfl, by simp, fun t ht => absurd ht (by omega), rfl⟩
    case round =>
      obtain ⟨j, k, hj, rfl, rfl, hall, rfl⟩ := hrel
      have HA := Lib.hid hall
      clear hall
      have hlast := hc (n - 1) (by omega)
      have i1 : ((n : Int) - 1).toNat = n - 1 := by omega
      by_cases hlt : j < n
      · have hcj := hc (n - 1 - j) (by omega)
        have i2 : ((n : Int) - 1 - (j : Int)).toNat = n - 1 - j := by omega
        have hd : decide ((j : Int) ≤ (n : Int) - 1) = true := by simp; omega
        generalize hq : l.getD (n - 1) 0 = q at hlast
        generalize hr : l.getD (n - 1 - j) 0 = r at hcj
        have HQ := Lib.hid hq
        have HR := Lib.hid hr
        have HH := Lib.hid h
        have HL := Lib.hid hl
        clear hq hr h hc hl
        by_cases hqr : r = q
        · have hne : (r == q) = true := by simp [hqr]
          have HE := Lib.hid hqr
          clear hqr
          go_wp2_with fail
          go_quiet (fail)
          go_wp2
          go_roundw
          case rel =>
            refine ⟨j + 1, _, by omega, by go_num, by go_num, fun t ht => ?_, rfl⟩
            rcases Nat.lt_or_ge t j with h1 | h1
            · exact (HA.out t h1).trans HQ.out
            · obtain rfl : t = j := by omega
              exact HR.out.trans HE.out
          case measure => simp [intOf]; omega
        · have hne : (r == q) = false := by simp [hqr]
          have HE := Lib.hid hqr
          clear hqr
          go_wp2_with fail
          go_quiet (fail)
          go_wp2
          go_ret
          have hln := HL.out
          refine ⟨?_, below_drewN (below_drewN (Below.refl _ _) _) _⟩
          rw [tail_walk (m := j) (fun e => by rw [e] at hln; simp at hln; omega) (by omega) (fun t ht => by rw [hln]; exact HA.out t ht) (.inr (by rw [hln, HR.out, HQ.out]; exact HE.out))]
          rfl
      · obtain rfl : j = n := by omega
        have hd : decide ((j : Int) ≤ (j : Int) - 1) = false := decide_eq_false (by omega)
        have HL := Lib.hid hl
        clear hc hl h hlast
        go_wp2_with fail
        go_quiet (fail)
        go_wp2
        go_ret
        have hln := HL.out
        refine ⟨?_, below_drewN (below_drewN (Below.refl _ _) _) _⟩
        rw [tail_walk (m := j) (fun e => by rw [e] at hln; simp at hln; omega) (by omega) (fun t ht => by rw [hln]; exact HA.out t ht) (.inl hln.symm)]
        rfl
end Go.Proofs.Ytkgnhmddnfmhjaa