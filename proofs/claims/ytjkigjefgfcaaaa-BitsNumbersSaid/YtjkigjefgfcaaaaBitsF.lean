/- What Of answers, and the document's own Of, power and Num. -/
import Derived.Test.YtjkigjefgfcaaaaBitsE
namespace Go.Proofs.Ytjkigjefgfcaaaa
open Go.RowKit

/-- A width that counts. -/
def clampW (w : Int) : Nat := (min (max w 0) 32).toNat
/-- The lowest bits of a number, the highest of these first. -/
def ofL (n : Int) (W : Nat) : List Int := (List.range W).map fun i => n / 2 ^ (W - 1 - i) % 2
theorem ofL_len (n : Int) (W : Nat) : (ofL n W).length = W := by simp [ofL]
theorem ofL_bits (n : Int) (W : Nat) : ∀ x ∈ ofL n W, x = 0 ∨ x = 1 := by
  intro x hx
  simp only [ofL, List.mem_map] at hx
  obtain ⟨i, _, rfl⟩ := hx
  omega
theorem ofL_range (n : Int) (W : Nat) : ∀ x ∈ ofL n W, 0 ≤ x ∧ x ≤ 255 := fun x hx => by have := ofL_bits n W x hx; omega
theorem ofL_getD (n : Int) {W j : Nat} (hj : j < W) : (ofL n W).getD j 0 = n / 2 ^ (W - 1 - j) % 2 := by
  simp [ofL, List.getD, hj]

theorem of_core (W : Nat) (hW : W ≤ 32) (n v : Int) (w : World) (hn : 0 ≤ n ∧ n ≤ 4294967295) (hv : clampW v = W) :
    Calls Try.prog 10 #[.int .u32 n, .int .i64 v] w fun e w' => ∃ A c, e = .returned (.slice A W c) ∧ Byt w' w'.heap.size A W c (ofL n W) ∧ Below w.heap.size w w' := by
  have hcase : (v < 0 ∧ W = 0) ∨ (0 ≤ v ∧ v ≤ 32 ∧ v = W) ∨ (32 < v ∧ W = 32) := by
    unfold clampW at hv
    omega
  obtain ⟨n0, n1⟩ := hn
  clear hv
  rcases hcase with ⟨h1, rfl⟩ | ⟨h1, h2, rfl⟩ | ⟨h1, rfl⟩
  · have hmk : ∀ w : World, (Instr.makeSlice 23 (.int .i64 0) (.int .i64 0)).run Try.prog w = .ok (.slice (some ⟨w.heap.size, 0, none⟩) 0 0) (w.alloc (.cells (madeCells #[.int .u8 0] 0) 5)) := make_row 0 (by omega)
    go_enter Try.func10, Try.ntmps10
    go_wp2_with fail
    refine wp_loop_rounds 1 ?_
    rw [rounds_succ]
    go_wp2
    go_ret
    exact ⟨_, _, rfl, ⟨rfl, Nat.le_refl _, by simp [maxLen], ofL_range n 0, fun h => absurd h (by omega)⟩, (Below.refl _ _).alloc (Nat.le_refl _) _⟩
  · have hmk := make_row W (by omega)
    go_enter Try.func10, Try.ntmps10
    go_wp2_with fail
    go_loopw [13] (fun i wr => ∃ j : Nat, j ≤ W ∧ i = .int .i64 j ∧ wr.rowIs w.heap.size 5 W (upto (ofL n W) j) ∧ Below w.heap.size w wr) (fun i _ => W - (intOf i).toNat)
    case atStart => exact ⟨0, Nat.zero_le _, rfl, upto_zero _, (Below.refl _ _).alloc (Nat.le_refl _) _⟩
    case round =>
      obtain ⟨j, hj, rfl, hrow, hbel⟩ := hrel
      by_cases hlt : j < W
      · have hget := ofL_getD n hlt
        have hgc := hrow.cell hlt
        have hgf := hrow.frozen j
        have hsh : ((W : Int) - 1 - (j : Int)).toNat = W - 1 - j := by omega
        have hmin : min (W - 1 - j) 32 = W - 1 - j := by omega
        have hle : (j : Int) ≤ (W : Int) - 1 := by omega
        have HG := Lib.hid hget
        clear hget
        go_wp2_with (go_at_call 25; refine (low_any _ _ (by omega) (by omega)).mono ?_; rintro e w1 ⟨rfl, rfl⟩)
        go_roundw
        case rel => exact ⟨j + 1, by omega, by go_num, upto_step hrow (by rw [HG.out]), hbel.setCell (Nat.le_refl _) _⟩
        case measure => simp [intOf]; omega
      · obtain rfl : j = W := by omega
        have hrow2 := upto_done hrow
        clear hrow
        go_wp2
        go_ret
        exact ⟨_, _, rfl, Byt.of_row hrow2 (ofL_len n _) (by simp only [maxLen]; omega) (ofL_range n _), hbel⟩
  · have hmk : ∀ w : World, (Instr.makeSlice 23 (.int .i64 32) (.int .i64 32)).run Try.prog w = .ok (.slice (some ⟨w.heap.size, 0, none⟩) 32 32) (w.alloc (.cells (madeCells #[.int .u8 0] 32) 5)) := make_row 32 (by omega)
    go_enter Try.func10, Try.ntmps10
    go_wp2_with fail
    go_loopw [13] (fun i wr => ∃ j : Nat, j ≤ 32 ∧ i = .int .i64 j ∧ wr.rowIs w.heap.size 5 32 (upto (ofL n 32) j) ∧ Below w.heap.size w wr) (fun i _ => 32 - (intOf i).toNat)
    case atStart => exact ⟨0, Nat.zero_le _, rfl, upto_zero _, (Below.refl _ _).alloc (Nat.le_refl _) _⟩
    case round =>
      obtain ⟨j, hj, rfl, hrow, hbel⟩ := hrel
      by_cases hlt : j < 32
      · have hget := ofL_getD n hlt
        have hgc := hrow.cell hlt
        have hgf := hrow.frozen j
        have hsh : (32 - 1 - (j : Int)).toNat = 32 - 1 - j := by omega
        have hmin : min (32 - 1 - j) 32 = 32 - 1 - j := by omega
        have hle : (j : Int) ≤ 32 - 1 := by omega
        have HG := Lib.hid hget
        clear hget
        go_wp2_with (go_at_call 25; refine (low_any _ _ (by omega) (by omega)).mono ?_; rintro e w1 ⟨rfl, rfl⟩)
        go_roundw
        case rel => exact ⟨j + 1, by omega, by go_num, upto_step hrow (by rw [HG.out]), hbel.setCell (Nat.le_refl _) _⟩
        case measure => simp [intOf]; omega
      · obtain rfl : j = 32 := by omega
        have hrow2 := upto_done hrow
        clear hrow
        go_wp2
        go_ret
        exact ⟨_, _, rfl, Byt.of_row hrow2 (ofL_len n _) (by simp only [maxLen]; omega) (ofL_range n _), hbel⟩

theorem clamp_le (v : Int) : clampW v ≤ 32 := by unfold clampW; omega
theorem of_any (n v : Int) (w : World) (hn : 0 ≤ n ∧ n ≤ 4294967295) :
    Calls Try.prog 10 #[.int .u32 n, .int .i64 v] w fun e w' => ∃ A c, e = .returned (.slice A (clampW v) c) ∧ Byt w' w'.heap.size A (clampW v) c (ofL n (clampW v)) ∧ Below w.heap.size w w' :=
  of_core (clampW v) (clamp_le v) n v w hn rfl

/-! ### The document's own -/
theorem power_core (k : Nat) : ∀ (a : Int) (w : World), a ≤ k → 0 ≤ a → a ≤ 31 → Calls Try.prog 26 #[.int .i64 a] w fun e w' => e = .returned (.int .u32 (2 ^ a.toNat)) ∧ w = w' := by
  induction k with
  | zero =>
    intro a w h1 h2 _
    obtain rfl : a = 0 := by omega
    go_enter Try.func26, Try.ntmps26
    go_wp2_with fail
    go_ret
    exact ⟨rfl, rfl⟩
  | succ k ih =>
    intro a w h1 h2 h3
    by_cases h0 : a < 1
    · obtain rfl : a = 0 := by omega
      go_enter Try.func26, Try.ntmps26
      go_wp2_with fail
      go_ret
      exact ⟨rfl, rfl⟩
    · obtain ⟨m, hm⟩ : ∃ m : Nat, a.toNat = m + 1 := ⟨a.toNat - 1, by omega⟩
      have h4 : (2 : Int) ^ a.toNat = 2 * 2 ^ m := by rw [hm, Int.pow_succ]; omega
      have h5 := ih (a - 1) w (by omega) (by omega) (by omega)
      rw [show (a - 1).toNat = m by omega] at h5
      have hp : (2 : Int) ^ m ≤ 1073741824 := by
        have h6 : (2 : Nat) ^ m ≤ 2 ^ 30 := Nat.pow_le_pow_right (by omega) (by omega)
        have h7 : ((2 ^ m : Nat) : Int) ≤ ((2 ^ 30 : Nat) : Int) := by exact_mod_cast h6
        simpa using h7
      have hp0 : (0 : Int) < 2 ^ m := Int.pow_pos (by omega)
      rw [h4]
      generalize (2 : Int) ^ m = p at h5 hp hp0
      have H5 := Lib.hid h5
      clear h5 h4 hm ih
      go_enter Try.func26, Try.ntmps26
      go_wp2_with fail
      refine H5.out.mono ?_
      rintro e w1 ⟨rfl, rfl⟩
      go_wp2
      go_ret
      exact ⟨rfl, rfl⟩
theorem power_any (a : Int) (w : World) (h0 : 0 ≤ a) (h1 : a ≤ 31) : Calls Try.prog 26 #[.int .i64 a] w fun e w' => e = .returned (.int .u32 (2 ^ a.toNat)) ∧ w = w' :=
  power_core a.toNat a w (by omega) h0 h1

/-- The bits that stand ahead of the powers from k on. -/
def ofU (n : Int) (W k : Nat) : List Int := (List.range (W - k)).map fun i => n / 2 ^ (W - 1 - i) % 2
theorem ofU_zero (n : Int) (W : Nat) : ofU n W 0 = ofL n W := rfl
theorem ofU_top (n : Int) {W k : Nat} (h : W ≤ k) : ofU n W k = [] := by simp [ofU, show W - k = 0 by omega]
theorem ofU_same (n : Int) {W k : Nat} (h : W ≤ k) : ofU n W k = ofU n W (k + 1) := by rw [ofU_top n h, ofU_top n (by omega)]
theorem ofU_step (n : Int) {W k : Nat} (h : k < W) : ofU n W k = ofU n W (k + 1) ++ [n / 2 ^ k % 2] := by
  unfold ofU
  rw [show W - k = (W - (k + 1)) + 1 by omega, List.range_succ, List.map_append]
  simp only [List.map_cons, List.map_nil]
  rw [show W - 1 - (W - (k + 1)) = k by omega]
theorem ofU_len (n : Int) (W k : Nat) : (ofU n W k).length = W - k := by simp [ofU]

theorem rof_any (n v : Int) (w : World) (hn : 0 ≤ n ∧ n ≤ 4294967295) :
    Calls Try.prog 13 #[.int .u32 n, .int .i64 v] w fun e w' => ∃ A c, e = .returned (.slice A (clampW v) c) ∧ Byt w' w'.heap.size A (clampW v) c (ofL n (clampW v)) ∧ Below w.heap.size w w' := by
  obtain ⟨W, hW⟩ : ∃ W, clampW v = W := ⟨_, rfl⟩
  have hW32 : W ≤ 32 := by rw [← hW]; exact clamp_le v
  have hvW : ∀ k : Nat, k ≤ 31 → ((k : Int) < v ↔ k < W) := fun k hk => by
    have h := hW
    unfold clampW at h
    omega
  rw [hW]
  obtain ⟨n0, n1⟩ := hn
  have HV := Lib.hid hvW
  clear hvW hW
  go_enter Try.func13, Try.ntmps13
  go_wp2_with fail
  go_loopw [6, 5] (fun i v wr => ∃ k : Nat, k ≤ 32 ∧ i = .int .i64 ((k : Int) - 1) ∧ wr.ownsRow w.heap.size 5 1 v (W - k) ((ofU n W k).map (Value.int .u8)) ∧ Below w.heap.size w wr) (fun i _ _ => (intOf i + 1).toNat)
  case atStart => exact ⟨32, by omega, rfl, by rw [ofU_top n hW32, show W - 32 = 0 by omega]; exact World.ownsRow_lit w #[] 0 (Nat.le_refl _) (by simp [maxLen]) rfl, (Below.refl _ _).alloc (Nat.le_refl _) _⟩
  case round =>
    obtain ⟨k1, hk, rfl, hown, hbel⟩ := hrel
    rcases Nat.eq_zero_or_pos k1 with h0 | h0
    · subst h0
      go_wp2_with fail
      go_ret
      rw [ofU_zero] at hown
      obtain ⟨A', c', rfl, hB, _⟩ := Byt.of_own hown (ofL_range n W)
      exact ⟨_, _, rfl, hB, hbel⟩
    · obtain ⟨k, rfl⟩ : ∃ k, k1 = k + 1 := ⟨k1 - 1, by omega⟩
      have e1 : (((k + 1 : Nat) : Int) - 1) = (k : Int) := by omega
      rw [e1]
      have hiff := HV.out k (by omega)
      have hdiv : 0 ≤ n / 2 ^ k := Int.ediv_nonneg n0 (Int.le_of_lt (Int.pow_pos (by omega)))
      have hdiv2 : n / 2 ^ k ≤ n := Int.ediv_le_self _ n0
      have hpos : (0 : Int) < 2 ^ k := Int.pow_pos (by omega)
      have hpw := fun w => power_any (k : Int) w (by omega) (by omega)
      rw [Int.toNat_natCast] at hpw
      by_cases hkv : (k : Int) < v
      · have hstep := ofU_step n (hiff.1 hkv)
        have hlen : W - k = W - (k + 1) + 1 := by have := hiff.1 hkv; omega
        have hW1 : W - (k + 1) + 1 ≤ 32 := by omega
        generalize (2 : Int) ^ k = p at hdiv hdiv2 hpos hpw hstep
        generalize W - (k + 1) = m at hown hlen hW1
        have HPW := Lib.hid hpw
        have HS := Lib.hid hstep
        have HL := Lib.hid hlen
        have hp1 : (p == 0) = false := by simp; omega
        clear hpw hstep hlen hiff e1
        go_wp2_with (first | (go_at_call 26; refine (HPW.out _).mono ?_; rintro e w1 ⟨rfl, rfl⟩) | (at_builtin; refine wpList_byte rfl (.tmp 15) (.tmp 22) rfl Try.underlying23 byte_info rfl hown rfl (by omega) hbel.size ?_; intro v' w' hown' hbel'))
        go_roundw
        case rel => exact ⟨k, by omega, rfl, by rw [HL.out, HS.out]; exact hown', hbel.trans hbel'⟩
        case measure => simp [intOf]
      · have hge : W ≤ k := Nat.le_of_not_lt (fun h => hkv (hiff.2 h))
        have hsame := ofU_same n hge
        have hlen : W - k = W - (k + 1) := by omega
        have HS := Lib.hid hsame
        have HL := Lib.hid hlen
        clear hpw hsame hlen hiff e1 hdiv hdiv2 hpos
        go_wp2_with fail
        go_roundw
        case rel => exact ⟨k, by omega, rfl, by rw [HL.out, HS.out]; exact hown, hbel⟩
        case measure => simp [intOf]

/-- The number of the first j bits, the rest of the places empty. -/
def numU (l : List Int) (L j : Nat) : Int := numB (l.take j) * 2 ^ (L - j)
theorem numU_bounds {l : List Int} {L j : Nat} (hl : l.length = L) (hL : L ≤ 32) (hj : j ≤ L) : 0 ≤ numU l L j ∧ numU l L j ≤ 4294967295 := by
  have hb := numB_bounds (l.take j)
  rw [List.length_take, hl, Nat.min_eq_left hj] at hb
  have hp : (0 : Int) < 2 ^ (L - j) := Int.pow_pos (by omega)
  have e : (2 : Int) ^ j * 2 ^ (L - j) = 2 ^ L := by rw [← Int.pow_add, show j + (L - j) = L by omega]
  have h32 : (2 : Int) ^ L ≤ 4294967296 := by
    have h6 : (2 : Nat) ^ L ≤ 2 ^ 32 := Nat.pow_le_pow_right (by omega) hL
    have h7 : ((2 ^ L : Nat) : Int) ≤ ((2 ^ 32 : Nat) : Int) := by exact_mod_cast h6
    simpa using h7
  unfold numU
  have h1 : numB (l.take j) * 2 ^ (L - j) < 2 ^ j * 2 ^ (L - j) := Int.mul_lt_mul_of_pos_right hb.2 hp
  exact ⟨Int.mul_nonneg hb.1 (Int.le_of_lt hp), by omega⟩
theorem numU_step {l : List Int} {L j : Nat} (hl : l.length = L) (hj : j < L) : numU l L (j + 1) = numU l L j + l.getD j 0 % 2 * 2 ^ (L - 1 - j) := by
  unfold numU
  rw [take_succ_getD (by omega), numB_snoc]
  have e : L - j = (L - 1 - j) + 1 := by omega
  have e2 : L - (j + 1) = L - 1 - j := by omega
  rw [e2, e, Int.pow_succ, Int.add_mul, Int.mul_assoc, Int.mul_comm 2]
theorem numU_end {l : List Int} {L : Nat} (hl : l.length = L) : numU l L L = numB l := by
  unfold numU
  rw [List.take_of_length_le (by omega), Nat.sub_self]; simp

theorem rnum_any (w : World) (A : Option Addr) (n c : Nat) (l : List Int) (h : Byt w w.heap.size A n c l) (hn : n ≤ 32) :
    Calls Try.prog 14 #[.slice A n c] w fun e w' => e = .returned (.int .u32 (numB l)) ∧ Below w.heap.size w w' := by
  have hl := h.len
  have HL := Lib.hid hl
  clear hl
  go_enter Try.func14, Try.ntmps14
  go_wp2_with fail
  go_loopw [3, 4] (fun v i wr => ∃ j : Nat, j ≤ n ∧ i = .int .i64 j ∧ v = .int .u32 (numU l n j) ∧ Byt wr wr.heap.size A n c l ∧ Below w.heap.size w wr) (fun _ i _ => n - (intOf i).toNat)
  case atStart => exact ⟨0, Nat.zero_le _, rfl, by simp [numU, numB], h, Below.refl _ _⟩
  case round =>
    obtain ⟨j, hj, rfl, rfl, hB, hbel⟩ := hrel
    by_cases hlt : j < n
    · obtain ⟨b, off, rfl, hb, hc⟩ := hB.cells (by omega)
      have hrange := hB.range j
      have hcj := hc j hlt
      have hstep := numU_step HL.out hlt
      have hbd := numU_bounds HL.out hn (Nat.le_of_lt hlt)
      have hbd2 := numU_bounds HL.out hn (show j + 1 ≤ n from hlt)
      rw [hstep] at hbd2
      have hpw := fun w => power_any ((n : Int) - 1 - (j : Int)) w (by omega) (by omega)
      rw [show ((n : Int) - 1 - (j : Int)).toNat = n - 1 - j by omega] at hpw
      have hp0 : (0 : Int) < 2 ^ (n - 1 - j) := Int.pow_pos (by omega)
      generalize l.getD j 0 = q at hrange hcj hstep hbd2
      generalize (2 : Int) ^ (n - 1 - j) = p at hpw hstep hbd2 hp0
      generalize numU l n j = N at hstep hbd hbd2
      have hm1 : 0 ≤ q % 2 * p := Int.mul_nonneg (by omega) (by omega)
      have hm2 : q % 2 * p ≤ 4294967295 := by omega
      have HPW := Lib.hid hpw
      have HS := Lib.hid hstep
      have HB := Lib.hid hB
      obtain ⟨hq0, hq1⟩ := hrange
      obtain ⟨hN0, hN1⟩ := hbd
      obtain ⟨hM0, hM1⟩ := hbd2
      have g1 : IntKind.i64.wrap ((n : Int) - 1) = (n : Int) - 1 := IntWalk.i64_in _ (by omega)
      have g2 : IntKind.i64.wrap ((n : Int) - 1 - (j : Int)) = (n : Int) - 1 - (j : Int) := IntWalk.i64_in _ (by omega)
      have g3 : q.tmod 2 = q % 2 := Int.tmod_eq_emod_of_nonneg hq0
      have g4 : IntKind.u32.wrap (q % 2) = q % 2 := IntWalk.u32_in _ (by omega)
      have g5 : IntKind.u32.wrap (q % 2 * p) = q % 2 * p := IntWalk.u32_in _ (by omega)
      have g6 : IntKind.u32.wrap (N + q % 2 * p) = N + q % 2 * p := IntWalk.u32_in _ (by omega)
      clear hpw hstep hc h hB
      go_wp2_with fail
      go_quiet ((go_at_call 26; exact Calls.quiet_of_same ((HPW.out _).mono fun e w' h => ⟨h.1, h.2.symm⟩)))
      clear g1 g2 g3 g4 g5 g6
      go_wp2
      go_roundw
      case rel => exact ⟨j + 1, by omega, by go_num, by rw [HS.out], HB.out.drewN _, below_drewN hbel _⟩
      case measure => simp [intOf]; omega
    · obtain rfl : j = n := by omega
      rw [numU_end HL.out]
      clear h hB
      go_wp2
      go_ret
      exact ⟨rfl, hbel⟩
end Go.Proofs.Ytjkigjefgfcaaaa
