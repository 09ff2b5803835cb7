/- What the reader's num and always do. -/
import Derived.Test.YtkgnhmddnfmhjaaWireE
namespace Go.Proofs.Ytkgnhmddnfmhjaa
open Go.RowKit

def numN (l : List Int) : Int := if 32 < l.length then 0 else numB l
def numE (l : List Int) : Int := if 32 < l.length then 13 else 0

theorem or_bit (n b : Int) (h0 : 0 ≤ n) (h1 : n < 2147483648) (hb : 0 ≤ b ∧ b ≤ 1) : bits .or .u32 (n * 2) b = n * 2 + b :=
  bits_join .u32 32 (by decide) (fun m m0 m1 => by rw [IntKind.wrap_u32]; omega) 1 (n * 2) b (by omega) (by omega) (by omega) hb.1 (by omega) (by omega)

theorem num_any (w : World) (A : Option Addr) (n c : Nat) (l : List Int) (h : Byt w w.heap.size A n c l) :
    Calls Try.prog 43 #[.slice A n c] w fun e w' => e = .returned (.tuple #[.int .u32 (numN l), .int .i64 (numE l)]) ∧ Below w.heap.size w w' := by
  have hl := h.len
  by_cases h32 : 32 < n
  · have e1 : numN l = 0 := by unfold numN; rw [if_pos (by omega)]
    have e2 : numE l = 13 := by unfold numE; rw [if_pos (by omega)]
    rw [e1, e2]
    clear e1 e2 hl h
    go_enter Try.func43, Try.ntmps43
    go_wp2
    go_ret2
    exact ⟨rfl, Below.refl _ _⟩
  · have e1 : numN l = numB l := by unfold numN; rw [if_neg (by omega)]
    have e2 : numE l = 0 := by unfold numE; rw [if_neg (by omega)]
    rw [e1, e2]
    clear e1 e2 hl
    go_enter Try.func43, Try.ntmps43
    go_wp2_with fail
    go_loop [12, 4] (fun i v => ∃ j : Nat, j ≤ n ∧ i = .int .i64 j ∧ v = .int .u32 (numB (l.take j))) (fun i _ => n - (intOf i).toNat)
    case atStart => exact ⟨0, Nat.zero_le _, rfl, rfl⟩
    case round =>
      obtain ⟨j, hj, rfl, rfl⟩ := hrel
      by_cases hlt : j < n
      · obtain ⟨b, off, rfl, hb, hc⟩ := h.cells (by omega)
        have hrange := h.range j
        have hcj := hc j hlt
        have hget : numB (l.take (j + 1)) = numB (l.take j) * 2 + l.getD j 0 % 2 := by rw [take_succ_getD (by rw [h.len]; exact hlt), numB_snoc]
        have hbd := numB_bounds (l.take j)
        have hln : (l.take j).length = j := by rw [List.length_take, h.len]; omega
        rw [hln] at hbd
        have hp := pow_le32 (j := j) (by omega)
        generalize l.getD j 0 = q at hrange hcj hget
        generalize hN : numB (l.take j) = N at hget hbd
        obtain ⟨hN0, hN1⟩ := hbd
        have hN2 : N < 2147483648 := by omega
        have hor := or_bit N (q % 2) hN0 hN2 (by omega)
        have HG := Lib.hid hget
        have HH := Lib.hid h
        obtain ⟨hq0, hq1⟩ := hrange
        clear hget hc h hln hp hN1 hN
        go_wp2_with (go_at_call 24; refine (low_any _ _ (by omega) (by omega)).mono ?_; rintro e w1 ⟨rfl, rfl⟩)
        go_round
        case rel => exact ⟨j + 1, by omega, by go_num, by rw [HG.out]⟩
        case measure => simp [intOf]; omega
      · obtain rfl : j = n := by omega
        have hl := h.len
        rw [List.take_of_length_le (by omega)]
        clear hl
        go_wp2
        go_ret2
        exact ⟨rfl, Below.refl _ _⟩


/-- So many bits of the core more. -/
def bitsO (b : List Int) : Nat → RS → Option RS
  | 0, s => some s
  | k + 1, s => match bitsO b k s with
    | none => none
    | some t => match bitO b t with
      | none => none
      | some (_, u) => some u
theorem bitO_co {b : List Int} {s u : RS} {x : Int} (h : bitO b s = some (x, u)) : u.co = s.co ++ [x] ∧ (x = 0 ∨ x = 1) := by
  unfold bitO at h
  rcases hb : betO b s with _ | t
  · rw [hb] at h; cases h
  · rw [hb] at h
    simp only at h
    split at h
    · cases h
      exact ⟨by rw [betO_co hb], mod2 _⟩
    · cases h
theorem bitsO_part {b : List Int} {s u : RS} : ∀ (k j : Nat), j ≤ k → bitsO b k s = some u → ∃ t, bitsO b j s = some t := by
  intro k
  induction k generalizing u with
  | zero => intro j hj h; exact ⟨u, by rw [show j = 0 by omega]; exact h⟩
  | succ k ih =>
    intro j hj h
    by_cases e : j = k + 1
    · exact ⟨u, by rw [e]; exact h⟩
    · unfold bitsO at h
      rcases hb : bitsO b k s with _ | t
      · rw [hb] at h; cases h
      · exact ih j (by omega) hb
theorem bitsO_next {b : List Int} {s t u : RS} {k j : Nat} (h : bitsO b k s = some u) (hj : j < k) (ht : bitsO b j s = some t) : ∃ x t', bitO b t = some (x, t') ∧ bitsO b (j + 1) s = some t' := by
  obtain ⟨t', h'⟩ := bitsO_part k (j + 1) hj h
  have h2 := h'
  unfold bitsO at h2
  rw [ht] at h2
  simp only at h2
  rcases hb : bitO b t with _ | ⟨x, t2⟩
  · rw [hb] at h2; cases h2
  · rw [hb] at h2
    simp only [Option.some.injEq] at h2
    subst h2
    exact ⟨x, t2, rfl, h'⟩
theorem bitsO_co {b : List Int} {s : RS} : ∀ (k : Nat) {t : RS}, bitsO b k s = some t → ∃ l, t.co = s.co ++ l ∧ l.length = k := by
  intro k
  induction k with
  | zero => intro t h; cases h; exact ⟨[], by simp, rfl⟩
  | succ k ih =>
    intro t h
    unfold bitsO at h
    rcases hb : bitsO b k s with _ | t'
    · rw [hb] at h; cases h
    · rw [hb] at h
      simp only at h
      rcases hb2 : bitO b t' with _ | ⟨x, t2⟩
      · rw [hb2] at h; cases h
      · rw [hb2] at h
        simp only [Option.some.injEq] at h
        subst h
        obtain ⟨l, e, hl⟩ := ih hb
        exact ⟨l ++ [x], by rw [(bitO_co hb2).1, e, List.append_assoc], by simp [hl]⟩
/-- The number that the last bits of the core make. -/
def numV (s t : RS) : Int := numB (t.co.drop s.co.length)
theorem numV_bounds {b : List Int} {s t : RS} {k : Nat} (h : bitsO b k s = some t) : 0 ≤ numV s t ∧ numV s t < 2 ^ k := by
  obtain ⟨l, e, hl⟩ := bitsO_co k h
  unfold numV
  rw [e, List.drop_left]
  have := numB_bounds l
  rw [hl] at this
  exact this
section
variable {B g n c : Nat} {A : Option Addr} {b : List Int} {v : Value} {s t : RS} {wr w' : World}
theorem Rd.step (h : Rd B g A n c b v s wr) (hb : Below wr.heap.size wr w') : Rd B g A n c b v s w' :=
  ⟨(hb.block g h.glt).trans h.blk, own_below h.own hb, h.byt.below (hb.mono (Nat.le_trans h.lt (Nat.le_of_lt h.glt))), h.lt, h.a1, h.a2, h.a3, h.a4⟩
theorem always_yes (x : Int) (w : World) : Calls Try.prog 41 #[.int .u8 x, .int .u8 x] w fun e w' => e = .returned (.tuple #[]) ∧ w = w' := by
  have hx : (x != x) = false := by simp
  go_enter Try.func41, Try.ntmps41
  go_wp2
  exact ⟨rfl, _, results_none rfl _ _ _, rfl, rfl⟩
set_option maxHeartbeats 1000000 in
theorem num_yes {W : Nat} (h : Rd B g A n c b v s wr) (hs : bitsO b W s = some t) (hW : 1 ≤ W ∧ W ≤ 15) (hk : s.co.length ≤ 1000) :
    Calls Try.prog 34 #[.pointer (some ⟨g, 0, none⟩), .int .i64 (W : Int)] wr fun e w' => e = .returned (.int .i64 (numV s t)) ∧ ∃ v', Rd B g A n c b v' t w' ∧ Mv g v v' wr w' := by
  obtain ⟨hW1, hW2⟩ := hW
  obtain ⟨A5, z5, rfl, _, _⟩ := Byt.of_own h.own (bits_range h.a4)
  obtain ⟨c0, c1, c2, c3, c4⟩ := h.cells
  have HH := Lib.hid h
  have HS := Lib.hid hs
  clear h hs c0 c1 c3 c4
  go_enter Try.func34, Try.ntmps34
  go_wp2_with fail
  go_loopw [14] (fun x w1 => ∃ (j : Nat) (t1 : RS) (v1 : Value), j ≤ W ∧ x = .int .i64 j ∧ Hid (bitsO b j s = some t1) ∧ Hid (Rd B g A n c b v1 t1 w1) ∧ Hid (Mv g (.slice A5 s.co.length z5) v1 wr w1)) (fun x _ => W - (intOf x).toNat)
  case atStart => exact ⟨0, s, _, Nat.zero_le _, rfl, rfl, HH, Lib.hid Mv.refl⟩
  case round =>
    obtain ⟨j, t1, v1, hj, rfl, HJ, HR, HM⟩ := hrel
    clear c2 HH
    by_cases hlt : j < W
    · obtain ⟨x, t2, hbit, hnext⟩ := bitsO_next HS.out hlt HJ.out
      have hlen : t1.co.length ≤ 100000 := by
        obtain ⟨l, e, hl⟩ := bitsO_co j HJ.out
        rw [e, List.length_append, hl]; omega
      have hb := bit_yes HR.out hbit hlen
      have HB := Lib.hid hb
      have HN := Lib.hid hnext
      clear hb hbit hnext
      go_wp2_with (go_at_call 42; refine HB.out.mono ?_; rintro e w2 ⟨rfl, v2, h2, hm2⟩)
      go_roundw
      case rel => exact ⟨j + 1, t2, v2, by omega, by go_num, HN, Lib.hid h2, Lib.hid (HM.out.trans hm2)⟩
      case measure => simp [intOf]; omega
    · obtain rfl : j = W := by omega
      have ht : t1 = t := Option.some.inj (HJ.out.symm.trans HS.out)
      subst ht
      have hco := HR.out.own
      obtain ⟨A6, z6, rfl, hB6, hA6⟩ := Byt.of_own HR.out.own (bits_range HR.out.a4)
      obtain ⟨d0, d1, d2, d3, d4⟩ := HR.out.cells
      clear d0 d1 d3 d4 hco
      obtain ⟨l, el, hl⟩ := bitsO_co j HS.out
      have hlen : t1.co.length = s.co.length + j := by rw [el, List.length_append, hl]
      have hbd := numV_bounds HS.out
      have hp := pow_le32 (j := j) (by omega)
      have hln : (t1.co.drop s.co.length).length = j := by rw [List.length_drop, hlen]; omega
      have hnv : numN (t1.co.drop s.co.length) = numV s t1 := by unfold numN numV; rw [if_neg (by omega)]
      have hne : numE (t1.co.drop s.co.length) = 0 := by unfold numE; rw [if_neg (by omega)]
      have hzn : ¬ z6 = s.co.length := by have := hB6.cap; omega
      have hBc := hB6.cut (s := s.co.length) (by omega)
      rw [if_neg hzn, show t1.co.length - s.co.length = j by omega] at hBc
      have hnum := num_any _ _ _ _ _ hBc
      rw [hnv, hne] at hnum
      generalize hqv : numV s t1 = q at hbd hnum
      obtain ⟨hq0, hq1⟩ := hbd
      have hq2 : q < 2147483648 := by omega
      have HNUM := Lib.hid hnum
      generalize t1.co.length = K at hlen d2 HM HNUM HR
      generalize hk0 : s.co.length = k0 at hlen hk HM hzn HNUM
      clear hBc hB6 hnum hnv hne hln hp hq1 hA6 el hl
      go_wp2_with (go_at_call 43; refine HNUM.out.mono ?_; rintro e w5 ⟨rfl, hb5⟩)
      subst hk0
      exact bodyPost_ret (results_tmp rfl _ _ _) rfl ⟨by rw [hqv]; rfl, _, HR.out.step hb5, HM.out.trans (Mv.of_below hb5)⟩
end
end Go.Proofs.Ytkgnhmddnfmhjaa
