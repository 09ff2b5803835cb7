/- What the reader's check, tail and frame do. -/
import Derived.Test.YtkgnhmddnfmhjaaWireG
namespace Go.Proofs.Ytkgnhmddnfmhjaa
open Go.RowKit

section
variable {B g n c h2 : Nat} {A : Option Addr} {b : List Int} {v v' : Value} {s s1 t u : RS} {w wr w' w0 : World} {i nn r : Int} {rb : Bool} {d : Nat → Int}
theorem check_yes (h : Rd B g A n c b v s w0) (hb15 : bitsO b 15 s = some s1) (hbt : betO b s1 = some u) (hcr : numV s s1 = ((remN 15 17817 0 s.co : Nat) : Int)) (hk : s.co.length ≤ 900) :
    Calls Try.prog 35 #[.pointer (some ⟨g, 0, none⟩)] w0 fun e w' => e = .returned (.tuple #[]) ∧ ∃ v', Rd B g A n c b v' u w' ∧ Mv g v v' w0 w' := by
  obtain ⟨A5, z5, rfl, hB5, _⟩ := Byt.of_own h.own (bits_range h.a4)
  obtain ⟨c0, c1, c2, c3, c4⟩ := h.cells
  have hc15 := crc15_any A5 _ z5 _ _ hB5
  have hnum : ∀ (v : Value) (w : World), Rd B g A n c b v s w → Calls Try.prog 34 #[.pointer (some ⟨g, 0, none⟩), .int .i64 15] w fun e w' => e = .returned (.int .i64 ((remN 15 17817 0 s.co : Nat) : Int)) ∧ ∃ v', Rd B g A n c b v' s1 w' ∧ Mv g v v' w w' := fun v w h => by
    have := num_yes h hb15 ⟨by omega, by omega⟩ (by omega)
    rw [hcr] at this
    exact this
  generalize (remN 15 17817 0 s.co : Nat) = q at hc15 hnum
  have hxe : ((q : Int) != (q : Int)) = false := by simp
  have HR := Lib.hid h
  have HC := Lib.hid hc15
  have HNU := Lib.hid hnum
  have HBT := Lib.hid hbt
  clear h hc15 hnum hbt hB5 c0 c1 c3 c4 hcr hb15
  go_enter Try.func35, Try.ntmps35
  go_wp2_with (first
    | (go_at_call 28; refine HC.out.mono ?_; rintro e w1 ⟨rfl, hb1⟩; have h1 := HR.out.step hb1; have HM := Lib.hid (Mv.of_below (g := g) (v := .slice A5 s.co.length z5) hb1); have HN := Lib.hid h1; clear HR h1 hb1; have HR := HN; clear HN)
    | (go_at_call 34; refine (HNU.out _ _ HR.out).mono ?_; rintro e w1 ⟨rfl, v1, h1, hm1⟩; have HN := Lib.hid h1; have HK := Lib.hid (HM.out.trans hm1); clear HR HM h1 hm1; have HR := HN; have HM := HK; clear HN HK)
    | (go_at_call 44; refine (between_yes HR.out HBT.out).mono ?_; rintro e w1 ⟨rfl, h1, hm1⟩; have HN := Lib.hid h1; have HK := Lib.hid (HM.out.trans hm1); clear HR HM h1 hm1; have HR := HN; have HM := HK; clear HN HK))
  exact ⟨rfl, _, results_none rfl _ _ _, rfl, _, HR.out, HM.out⟩
theorem tail_yes (h : Rd B g A n c b v s w0) (ht : ∀ k, k < 10 → s.at_ + k < n ∧ (k ≠ 1 → b.getD (s.at_ + k) 0 % 2 = 1)) :
    Calls Try.prog 36 #[.pointer (some ⟨g, 0, none⟩)] w0 fun e w' => e = .returned (.tuple #[]) ∧ Rd B g A n c b v ⟨s.at_ + 10, s.co, s.la, s.sm⟩ w' ∧ Mv g v v w0 w' := by
  have HR0 := Lib.hid h
  have HT := Lib.hid ht
  clear h ht
  go_enter Try.func36, Try.ntmps36
  go_wp2_with fail
  go_loopw [4] (fun x w1 => ∃ j : Nat, j ≤ 10 ∧ x = .int .i64 j ∧ Hid (Rd B g A n c b v ⟨s.at_ + j, s.co, s.la, s.sm⟩ w1) ∧ Hid (Mv g v v w0 w1)) (fun x _ => 10 - (intOf x).toNat)
  case atStart => exact ⟨0, Nat.zero_le _, rfl, HR0, Lib.hid Mv.refl⟩
  case round =>
    obtain ⟨j, hj, rfl, HR, HM⟩ := hrel
    clear HR0
    by_cases hlt : j < 10
    · obtain ⟨hat, hbit⟩ := HT.out j hlt
      have hnx := next_ok HR.out hat
      by_cases h1 : j = 1
      · subst h1
        have HNX := Lib.hid hnx
        clear hnx hbit
        go_wp2_with (go_at_call 45; refine HNX.out.mono ?_; rintro e w1 ⟨rfl, h1, hm1⟩; have HN := Lib.hid h1; have HK := Lib.hid (HM.out.trans hm1); clear HR HM h1 hm1; have HR := HN; have HM := HK; clear HN HK)
        go_roundw
        case rel => exact ⟨2, by omega, by go_num, HR, HM⟩
        case measure => simp [intOf]
      · rw [hbit h1] at hnx
        have HNX := Lib.hid hnx
        have hj1 : ((j : Int) != 1) = true := by simp; omega
        clear hnx hbit
        go_wp2_with (first
          | (go_at_call 45; refine HNX.out.mono ?_; rintro e w1 ⟨rfl, h1, hm1⟩; have HN := Lib.hid h1; have HK := Lib.hid (HM.out.trans hm1); clear HR HM h1 hm1; have HR := HN; have HM := HK; clear HN HK)
          | (go_at_call 41; refine (always_yes _ _).mono ?_; rintro e w2 ⟨rfl, rfl⟩))
        go_roundw
        case rel => exact ⟨j + 1, by omega, by go_num, HR, HM⟩
        case measure => simp [intOf]; omega
    · obtain rfl : j = 10 := by omega
      go_wp2
      exact ⟨rfl, _, results_none rfl _ _ _, rfl, HR.out, HM.out⟩
end
/-- So many bytes of the core more. -/
def dO (b : List Int) : Nat → RS → Option (List Int × RS)
  | 0, s => some ([], s)
  | k + 1, s => match dO b k s with
    | none => none
    | some (l, t) => match bitsO b 8 t with
      | none => none
      | some u => some (l ++ [numV t u], u)
theorem dO_part {b : List Int} {s u : RS} : ∀ (k j : Nat) {l : List Int}, j ≤ k → dO b k s = some (l, u) → ∃ m t, dO b j s = some (m, t) := by
  intro k
  induction k generalizing u with
  | zero => intro j l hj h; exact ⟨l, u, by rw [show j = 0 by omega]; exact h⟩
  | succ k ih =>
    intro j l hj h
    by_cases e : j = k + 1
    · exact ⟨l, u, by rw [e]; exact h⟩
    · unfold dO at h
      rcases hb : dO b k s with _ | ⟨m, t⟩
      · rw [hb] at h; cases h
      · exact ih j (by omega) hb
theorem dO_next {b : List Int} {s t u : RS} {k j : Nat} {l m : List Int} (h : dO b k s = some (l, u)) (hj : j < k) (ht : dO b j s = some (m, t)) : ∃ t', bitsO b 8 t = some t' ∧ dO b (j + 1) s = some (m ++ [numV t t'], t') := by
  obtain ⟨m', t', h'⟩ := dO_part k (j + 1) hj h
  have h2 := h'
  unfold dO at h2
  rw [ht] at h2
  simp only at h2
  rcases hb : bitsO b 8 t with _ | t2
  · rw [hb] at h2; cases h2
  · rw [hb] at h2
    cases h2
    exact ⟨_, rfl, h'⟩
theorem dO_len {b : List Int} {s : RS} : ∀ (k : Nat) {l : List Int} {t : RS}, dO b k s = some (l, t) → l.length = k ∧ t.co.length = s.co.length + 8 * k := by
  intro k
  induction k with
  | zero => intro l t h; cases h; exact ⟨rfl, rfl⟩
  | succ k ih =>
    intro l t h
    obtain ⟨m, t0, h0⟩ := dO_part (k + 1) k (by omega) h
    obtain ⟨t', hb, h2⟩ := dO_next h (by omega) h0
    have h3 := ih h0
    rw [h] at h2
    cases h2
    have := bitsO_len hb
    exact ⟨by simp [h3.1], by omega⟩
/-- Some bytes, and noughts behind. -/
def dW (l : List Int) (j : Nat) : Int := l.getD j 0
end Go.Proofs.Ytkgnhmddnfmhjaa
