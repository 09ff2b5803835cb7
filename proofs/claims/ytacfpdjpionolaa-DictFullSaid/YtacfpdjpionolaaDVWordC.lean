/- What word.Get answers, of any kind and any bytes: the number whose bytes these are, or an error. -/
import Derived.Laws.BitsAllLaws
import Derived.Test.YtacfpdjpionolaaDVRefB
namespace Go.Proofs.Ytacfpdjpionolaa
open Go.RowKit
/-- The number of some bytes, the lowest first. -/
def numL : List Int → Int
  | [] => 0
  | x :: l => x + 256 * numL l
def valL (k : Int) (l : List Int) : Int := if kHigh k < numL l then numL l - 256 ^ l.length else numL l
def getN (k : Int) (l : List Int) : Int := if 0 < kSize k ∧ kSize k = l.length ∧ fitB k (valL k l) = true then valL k l else 0
def getE (k : Int) (l : List Int) : Int := if kSize k = 0 then 2 else if ¬ kSize k = l.length then 11 else if fitB k (valL k l) = true then 0 else 4
/-- What a Get answers. -/
def GetPost (k : Int) (l : List Int) (W : World) (e : Ending) (w' : World) : Prop := e = .returned (.tuple #[.int .i64 (getN k l), .int .i64 (getE k l)]) ∧ Below W.heap.size W w'

theorem get_end_none {k : Int} {l : List Int} {W w' : World} (h : kSize k = 0) (hb : Below W.heap.size W w') : GetPost k l W (.returned (.tuple #[.int .i64 0, .int .i64 2])) w' := by
  have h1 : getN k l = 0 := by unfold getN; rw [if_neg (by omega)]
  have h2 : getE k l = 2 := by unfold getE; rw [if_pos h]
  exact ⟨by rw [h1, h2], hb⟩
theorem get_end_len {k : Int} {l : List Int} {W w' : World} (h : ¬ kSize k = 0) (hl : ¬ kSize k = l.length) (hb : Below W.heap.size W w') : GetPost k l W (.returned (.tuple #[.int .i64 0, .int .i64 11])) w' := by
  have h1 : getN k l = 0 := by unfold getN; rw [if_neg (fun h => hl h.2.1)]
  have h2 : getE k l = 11 := by unfold getE; rw [if_neg h, if_pos hl]
  exact ⟨by rw [h1, h2], hb⟩
theorem get_end_yes {k n : Int} {l : List Int} {W w' : World} (h : 0 < kSize k) (hl : kSize k = l.length) (hn : valL k l = n) (hf : fitB k n = true) (hb : Below W.heap.size W w') : GetPost k l W (.returned (.tuple #[.int .i64 n, .int .i64 0])) w' := by
  have h1 : getN k l = n := by unfold getN; rw [hn, if_pos ⟨h, hl, hf⟩]
  have h2 : getE k l = 0 := by unfold getE; rw [if_neg (by omega), if_neg (by omega), hn, if_pos hf]
  exact ⟨by rw [h1, h2], hb⟩
theorem get_end_no {k n : Int} {l : List Int} {W w' : World} (h : 0 < kSize k) (hl : kSize k = l.length) (hn : valL k l = n) (hf : fitB k n = false) (hb : Below W.heap.size W w') : GetPost k l W (.returned (.tuple #[.int .i64 0, .int .i64 4])) w' := by
  have h1 : getN k l = 0 := by unfold getN; rw [hn, if_neg (by simp [hf])]
  have h2 : getE k l = 4 := by unfold getE; rw [if_neg (by omega), if_neg (by omega), hn, if_neg (by simp [hf])]
  exact ⟨by rw [h1, h2], hb⟩

theorem ofInt64 (a : Nat) (ha : a < 9223372036854775808) : (BitVec.ofInt 64 (a : Int)).toNat = a := by
  rw [BitVec.ofInt_natCast, BitVec.toNat_ofNat]; exact Nat.mod_eq_of_lt (by omega)
/-- What lies in different places is joined by adding. -/
theorem or_add (i : Nat) (a b : Int) (ha : 0 ≤ a) (ha2 : a < 2 ^ i) (hb : 0 ≤ b) (hb2 : b ≤ 255) (hi : i ≤ 24) : bits .or .i64 a (b * 2 ^ i) = a + b * 2 ^ i := by
  obtain ⟨m, rfl⟩ := Int.eq_ofNat_of_zero_le ha
  obtain ⟨q, rfl⟩ := Int.eq_ofNat_of_zero_le hb
  have hp : (2 : Int) ^ i = ((2 ^ i : Nat) : Int) := by simp
  rw [hp] at ha2 ⊢
  have hm : m < 2 ^ i := by omega
  have hle : 2 ^ i ≤ 2 ^ 24 := Nat.pow_le_pow_right (by omega) hi
  have hqi : q * 2 ^ i ≤ 255 * 2 ^ 24 := Nat.mul_le_mul (by omega) hle
  have hor : m ||| q * 2 ^ i = m + q * 2 ^ i := by
    rw [Nat.or_comm, Nat.mul_comm, ← Nat.two_pow_add_eq_or_of_lt hm, Nat.add_comm]
  have e : ((q : Int) * ((2 ^ i : Nat) : Int)) = ((q * 2 ^ i : Nat) : Int) := by simp
  rw [e]
  show IntKind.i64.wrap ((BitVec.ofInt 64 (m : Int) ||| BitVec.ofInt 64 ((q * 2 ^ i : Nat) : Int)).toNat : Int) = _
  rw [BitVec.toNat_or, ofInt64 m (by omega), ofInt64 _ (by omega), hor, IntKind.wrap_i64]
  omega
theorem or_0 (x : Int) (h : 0 ≤ x ∧ x ≤ 255) : bits .or .i64 0 x = x := by simpa using or_add 0 0 x (by omega) (by omega) h.1 h.2 (by omega)
theorem or_1 (a y : Int) (ha : 0 ≤ a ∧ a < 256) (h : 0 ≤ y ∧ y ≤ 255) : bits .or .i64 a (y * 256) = a + y * 256 := or_add 8 a y ha.1 ha.2 h.1 h.2 (by omega)
theorem or_2 (a y : Int) (ha : 0 ≤ a ∧ a < 65536) (h : 0 ≤ y ∧ y ≤ 255) : bits .or .i64 a (y * 65536) = a + y * 65536 := or_add 16 a y ha.1 ha.2 h.1 h.2 (by omega)
theorem or_3 (a y : Int) (ha : 0 ≤ a ∧ a < 16777216) (h : 0 ≤ y ∧ y ≤ 255) : bits .or .i64 a (y * 16777216) = a + y * 16777216 := or_add 24 a y ha.1 ha.2 h.1 h.2 (by omega)

theorem get_none (k : Int) (w : World) (A : Option Addr) (n c : Nat) (l : List Int) (hs : kSize k = 0) : Calls Try.prog 68 #[.int .i64 k, .slice A n c] w (GetPost k l w) := by
  have h2 := fun w => size_any k w
  rw [hs] at h2
  have H2 := Lib.hid h2
  have HS := Lib.hid hs
  clear h2 hs
  go_enter Try.func68, Try.ntmps68
  go_wp2_with (go_at_call 75; refine (H2.out _).mono ?_; rintro e w2 ⟨rfl, hb2⟩)
  go_ret2
  exact get_end_none HS.out hb2

theorem get_len (k : Int) (w : World) (A : Option Addr) (n c : Nat) (l : List Int) (hl : l.length = n) (hs : ¬ kSize k = 0) (hn : ¬ kSize k = l.length) : Calls Try.prog 68 #[.int .i64 k, .slice A n c] w (GetPost k l w) := by
  have HS := Lib.hid hs
  have HN := Lib.hid hn
  have d1 : (kSize k == 0) = false := by simpa using hs
  have d2 : ((n : Int) == kSize k) = false := by simp; omega
  have d3 : ((n : Int) != kSize k) = true := by simp; omega
  clear hs hn hl
  go_enter Try.func68, Try.ntmps68
  go_wp2_with (go_at_call 75; refine (size_any _ _).mono ?_; rintro e w2 ⟨rfl, hb2⟩)
  go_ret2
  exact get_end_len HS.out HN.out hb2

theorem get_1_0 (k : Int) (w : World) (A : Option Addr) (c : Nat) (x : Int) (h : Byt w w.heap.size A 1 c [x]) (hs : kSize k = 1) (hh : ¬ kHigh k < x) :
    Calls Try.prog 68 #[.int .i64 k, .slice A 1 c] w (GetPost k [x] w) := by
  have h2 := fun w => size_any k w
  rw [hs] at h2
  have H2 := Lib.hid h2
  have HS := Lib.hid hs
  have HV : Hid (valL k [x] = x) := by
    have e : numL [x] = x := by simp only [numL]; omega
    show valL k _ = _
    unfold valL; rw [e, if_neg hh]
  obtain ⟨b, off, rfl, hb, hc⟩ := h.cells (by omega)
  have c0 : w.cell? ⟨b, off + 0, none⟩ = some (.int .u8 x) := hc 0 (by omega)
  have r0 := h.rng x (by simp)
  rw [Nat.add_zero] at c0
  have o0 := or_0 x r0
  have kb := k_bounds k
  clear h2 hs hc h
  rcases Bool.eq_false_or_eq_true (fitB k (x)) with hf | hf
  all_goals
    have hfit := fun w => fits_any k (x) w
    rw [hf] at hfit
    have HFIT := Lib.hid hfit
    have HF := Lib.hid hf
    clear hf hfit
    go_enter Try.func68, Try.ntmps68
    go_wp2_with (go_at_call 75; refine (H2.out _).mono ?_; rintro e w2 ⟨rfl, hb2⟩; have d0 := (bcell hb2).1 b off hb; rw [c0] at d0)
    refine wp_loop_rounds 2 ?_
    repeat any_goals (rw [rounds_succ]; go_wp2_with fail)
    refine (high_any k _).mono ?_
    rintro e w3 ⟨rfl, hb3⟩
    go_wp2_with fail
    refine (HFIT.out _).mono ?_
    rintro e w4 ⟨rfl, hb4⟩
    go_wp2
    go_ret2
    first
      | exact get_end_yes (by rw [HS.out]; omega) (by rw [HS.out]; rfl) HV.out HF.out (below_trans' (below_trans' hb2 hb3) hb4)
      | exact get_end_no (by rw [HS.out]; omega) (by rw [HS.out]; rfl) HV.out HF.out (below_trans' (below_trans' hb2 hb3) hb4)

theorem get_1_1 (k : Int) (w : World) (A : Option Addr) (c : Nat) (x : Int) (h : Byt w w.heap.size A 1 c [x]) (hs : kSize k = 1) (hh : kHigh k < x) :
    Calls Try.prog 68 #[.int .i64 k, .slice A 1 c] w (GetPost k [x] w) := by
  have h2 := fun w => size_any k w
  rw [hs] at h2
  have H2 := Lib.hid h2
  have HS := Lib.hid hs
  have HV : Hid (valL k [x] = x - 256) := by
    have e : numL [x] = x := by simp only [numL]; omega
    show valL k _ = _
    unfold valL; rw [e, if_pos hh]; simp
  obtain ⟨b, off, rfl, hb, hc⟩ := h.cells (by omega)
  have c0 : w.cell? ⟨b, off + 0, none⟩ = some (.int .u8 x) := hc 0 (by omega)
  have r0 := h.rng x (by simp)
  rw [Nat.add_zero] at c0
  have o0 := or_0 x r0
  have kb := k_bounds k
  clear h2 hs hc h
  rcases Bool.eq_false_or_eq_true (fitB k (x - 256)) with hf | hf
  all_goals
    have hfit := fun w => fits_any k (x - 256) w
    rw [hf] at hfit
    have HFIT := Lib.hid hfit
    have HF := Lib.hid hf
    clear hf hfit
    go_enter Try.func68, Try.ntmps68
    go_wp2_with (go_at_call 75; refine (H2.out _).mono ?_; rintro e w2 ⟨rfl, hb2⟩; have d0 := (bcell hb2).1 b off hb; rw [c0] at d0)
    refine wp_loop_rounds 2 ?_
    repeat any_goals (rw [rounds_succ]; go_wp2_with fail)
    refine (high_any k _).mono ?_
    rintro e w3 ⟨rfl, hb3⟩
    go_wp2_with fail
    refine (HFIT.out _).mono ?_
    rintro e w4 ⟨rfl, hb4⟩
    go_wp2
    go_ret2
    first
      | exact get_end_yes (by rw [HS.out]; omega) (by rw [HS.out]; rfl) HV.out HF.out (below_trans' (below_trans' hb2 hb3) hb4)
      | exact get_end_no (by rw [HS.out]; omega) (by rw [HS.out]; rfl) HV.out HF.out (below_trans' (below_trans' hb2 hb3) hb4)

theorem get_2_0 (k : Int) (w : World) (A : Option Addr) (c : Nat) (x y : Int) (h : Byt w w.heap.size A 2 c [x, y]) (hs : kSize k = 2) (hh : ¬ kHigh k < x + y * 256) :
    Calls Try.prog 68 #[.int .i64 k, .slice A 2 c] w (GetPost k [x, y] w) := by
  have h2 := fun w => size_any k w
  rw [hs] at h2
  have H2 := Lib.hid h2
  have HS := Lib.hid hs
  have HV : Hid (valL k [x, y] = x + y * 256) := by
    have e : numL [x, y] = x + y * 256 := by simp only [numL]; omega
    show valL k _ = _
    unfold valL; rw [e, if_neg hh]
  obtain ⟨b, off, rfl, hb, hc⟩ := h.cells (by omega)
  have c0 : w.cell? ⟨b, off + 0, none⟩ = some (.int .u8 x) := hc 0 (by omega)
  have r0 := h.rng x (by simp)
  have c1 : w.cell? ⟨b, off + 1, none⟩ = some (.int .u8 y) := hc 1 (by omega)
  have r1 := h.rng y (by simp)
  rw [Nat.add_zero] at c0
  have o0 := or_0 x r0
  have o1 := or_1 (x) y (by omega) r1
  have kb := k_bounds k
  clear h2 hs hc h
  rcases Bool.eq_false_or_eq_true (fitB k (x + y * 256)) with hf | hf
  all_goals
    have hfit := fun w => fits_any k (x + y * 256) w
    rw [hf] at hfit
    have HFIT := Lib.hid hfit
    have HF := Lib.hid hf
    clear hf hfit
    go_enter Try.func68, Try.ntmps68
    go_wp2_with (go_at_call 75; refine (H2.out _).mono ?_; rintro e w2 ⟨rfl, hb2⟩; have d0 := (bcell hb2).1 b off hb; have d1 := (bcell hb2).1 b (off + 1) hb; rw [c0] at d0; rw [c1] at d1)
    refine wp_loop_rounds 3 ?_
    repeat any_goals (rw [rounds_succ]; go_wp2_with fail)
    refine (high_any k _).mono ?_
    rintro e w3 ⟨rfl, hb3⟩
    go_wp2_with fail
    refine (HFIT.out _).mono ?_
    rintro e w4 ⟨rfl, hb4⟩
    go_wp2
    go_ret2
    first
      | exact get_end_yes (by rw [HS.out]; omega) (by rw [HS.out]; rfl) HV.out HF.out (below_trans' (below_trans' hb2 hb3) hb4)
      | exact get_end_no (by rw [HS.out]; omega) (by rw [HS.out]; rfl) HV.out HF.out (below_trans' (below_trans' hb2 hb3) hb4)

theorem get_2_1 (k : Int) (w : World) (A : Option Addr) (c : Nat) (x y : Int) (h : Byt w w.heap.size A 2 c [x, y]) (hs : kSize k = 2) (hh : kHigh k < x + y * 256) :
    Calls Try.prog 68 #[.int .i64 k, .slice A 2 c] w (GetPost k [x, y] w) := by
  have h2 := fun w => size_any k w
  rw [hs] at h2
  have H2 := Lib.hid h2
  have HS := Lib.hid hs
  have HV : Hid (valL k [x, y] = x + y * 256 - 65536) := by
    have e : numL [x, y] = x + y * 256 := by simp only [numL]; omega
    show valL k _ = _
    unfold valL; rw [e, if_pos hh]; simp
  obtain ⟨b, off, rfl, hb, hc⟩ := h.cells (by omega)
  have c0 : w.cell? ⟨b, off + 0, none⟩ = some (.int .u8 x) := hc 0 (by omega)
  have r0 := h.rng x (by simp)
  have c1 : w.cell? ⟨b, off + 1, none⟩ = some (.int .u8 y) := hc 1 (by omega)
  have r1 := h.rng y (by simp)
  rw [Nat.add_zero] at c0
  have o0 := or_0 x r0
  have o1 := or_1 (x) y (by omega) r1
  have kb := k_bounds k
  clear h2 hs hc h
  rcases Bool.eq_false_or_eq_true (fitB k (x + y * 256 - 65536)) with hf | hf
  all_goals
    have hfit := fun w => fits_any k (x + y * 256 - 65536) w
    rw [hf] at hfit
    have HFIT := Lib.hid hfit
    have HF := Lib.hid hf
    clear hf hfit
    go_enter Try.func68, Try.ntmps68
    go_wp2_with (go_at_call 75; refine (H2.out _).mono ?_; rintro e w2 ⟨rfl, hb2⟩; have d0 := (bcell hb2).1 b off hb; have d1 := (bcell hb2).1 b (off + 1) hb; rw [c0] at d0; rw [c1] at d1)
    refine wp_loop_rounds 3 ?_
    repeat any_goals (rw [rounds_succ]; go_wp2_with fail)
    refine (high_any k _).mono ?_
    rintro e w3 ⟨rfl, hb3⟩
    go_wp2_with fail
    refine (HFIT.out _).mono ?_
    rintro e w4 ⟨rfl, hb4⟩
    go_wp2
    go_ret2
    first
      | exact get_end_yes (by rw [HS.out]; omega) (by rw [HS.out]; rfl) HV.out HF.out (below_trans' (below_trans' hb2 hb3) hb4)
      | exact get_end_no (by rw [HS.out]; omega) (by rw [HS.out]; rfl) HV.out HF.out (below_trans' (below_trans' hb2 hb3) hb4)

theorem get_4_0 (k : Int) (w : World) (A : Option Addr) (c : Nat) (x y z u : Int) (h : Byt w w.heap.size A 4 c [x, y, z, u]) (hs : kSize k = 4) (hh : ¬ kHigh k < x + y * 256 + z * 65536 + u * 16777216) :
    Calls Try.prog 68 #[.int .i64 k, .slice A 4 c] w (GetPost k [x, y, z, u] w) := by
  have h2 := fun w => size_any k w
  rw [hs] at h2
  have H2 := Lib.hid h2
  have HS := Lib.hid hs
  have HV : Hid (valL k [x, y, z, u] = x + y * 256 + z * 65536 + u * 16777216) := by
    have e : numL [x, y, z, u] = x + y * 256 + z * 65536 + u * 16777216 := by simp only [numL]; omega
    show valL k _ = _
    unfold valL; rw [e, if_neg hh]
  obtain ⟨b, off, rfl, hb, hc⟩ := h.cells (by omega)
  have c0 : w.cell? ⟨b, off + 0, none⟩ = some (.int .u8 x) := hc 0 (by omega)
  have r0 := h.rng x (by simp)
  have c1 : w.cell? ⟨b, off + 1, none⟩ = some (.int .u8 y) := hc 1 (by omega)
  have r1 := h.rng y (by simp)
  have c2 : w.cell? ⟨b, off + 2, none⟩ = some (.int .u8 z) := hc 2 (by omega)
  have r2 := h.rng z (by simp)
  have c3 : w.cell? ⟨b, off + 3, none⟩ = some (.int .u8 u) := hc 3 (by omega)
  have r3 := h.rng u (by simp)
  rw [Nat.add_zero] at c0
  have o0 := or_0 x r0
  have o1 := or_1 (x) y (by omega) r1
  have o2 := or_2 (x + y * 256) z (by omega) r2
  have o3 := or_3 (x + y * 256 + z * 65536) u (by omega) r3
  have kb := k_bounds k
  clear h2 hs hc h
  rcases Bool.eq_false_or_eq_true (fitB k (x + y * 256 + z * 65536 + u * 16777216)) with hf | hf
  all_goals
    have hfit := fun w => fits_any k (x + y * 256 + z * 65536 + u * 16777216) w
    rw [hf] at hfit
    have HFIT := Lib.hid hfit
    have HF := Lib.hid hf
    clear hf hfit
    go_enter Try.func68, Try.ntmps68
    go_wp2_with (go_at_call 75; refine (H2.out _).mono ?_; rintro e w2 ⟨rfl, hb2⟩; have d0 := (bcell hb2).1 b off hb; have d1 := (bcell hb2).1 b (off + 1) hb; have d2 := (bcell hb2).1 b (off + 2) hb; have d3 := (bcell hb2).1 b (off + 3) hb; rw [c0] at d0; rw [c1] at d1; rw [c2] at d2; rw [c3] at d3)
    refine wp_loop_rounds 5 ?_
    repeat any_goals (rw [rounds_succ]; go_wp2_with fail)
    refine (high_any k _).mono ?_
    rintro e w3 ⟨rfl, hb3⟩
    go_wp2_with fail
    refine (HFIT.out _).mono ?_
    rintro e w4 ⟨rfl, hb4⟩
    go_wp2
    go_ret2
    first
      | exact get_end_yes (by rw [HS.out]; omega) (by rw [HS.out]; rfl) HV.out HF.out (below_trans' (below_trans' hb2 hb3) hb4)
      | exact get_end_no (by rw [HS.out]; omega) (by rw [HS.out]; rfl) HV.out HF.out (below_trans' (below_trans' hb2 hb3) hb4)

theorem get_4_1 (k : Int) (w : World) (A : Option Addr) (c : Nat) (x y z u : Int) (h : Byt w w.heap.size A 4 c [x, y, z, u]) (hs : kSize k = 4) (hh : kHigh k < x + y * 256 + z * 65536 + u * 16777216) :
    Calls Try.prog 68 #[.int .i64 k, .slice A 4 c] w (GetPost k [x, y, z, u] w) := by
  have h2 := fun w => size_any k w
  rw [hs] at h2
  have H2 := Lib.hid h2
  have HS := Lib.hid hs
  have HV : Hid (valL k [x, y, z, u] = x + y * 256 + z * 65536 + u * 16777216 - 4294967296) := by
    have e : numL [x, y, z, u] = x + y * 256 + z * 65536 + u * 16777216 := by simp only [numL]; omega
    show valL k _ = _
    unfold valL; rw [e, if_pos hh]; simp
  obtain ⟨b, off, rfl, hb, hc⟩ := h.cells (by omega)
  have c0 : w.cell? ⟨b, off + 0, none⟩ = some (.int .u8 x) := hc 0 (by omega)
  have r0 := h.rng x (by simp)
  have c1 : w.cell? ⟨b, off + 1, none⟩ = some (.int .u8 y) := hc 1 (by omega)
  have r1 := h.rng y (by simp)
  have c2 : w.cell? ⟨b, off + 2, none⟩ = some (.int .u8 z) := hc 2 (by omega)
  have r2 := h.rng z (by simp)
  have c3 : w.cell? ⟨b, off + 3, none⟩ = some (.int .u8 u) := hc 3 (by omega)
  have r3 := h.rng u (by simp)
  rw [Nat.add_zero] at c0
  have o0 := or_0 x r0
  have o1 := or_1 (x) y (by omega) r1
  have o2 := or_2 (x + y * 256) z (by omega) r2
  have o3 := or_3 (x + y * 256 + z * 65536) u (by omega) r3
  have kb := k_bounds k
  clear h2 hs hc h
  rcases Bool.eq_false_or_eq_true (fitB k (x + y * 256 + z * 65536 + u * 16777216 - 4294967296)) with hf | hf
  all_goals
    have hfit := fun w => fits_any k (x + y * 256 + z * 65536 + u * 16777216 - 4294967296) w
    rw [hf] at hfit
    have HFIT := Lib.hid hfit
    have HF := Lib.hid hf
    clear hf hfit
    go_enter Try.func68, Try.ntmps68
    go_wp2_with (go_at_call 75; refine (H2.out _).mono ?_; rintro e w2 ⟨rfl, hb2⟩; have d0 := (bcell hb2).1 b off hb; have d1 := (bcell hb2).1 b (off + 1) hb; have d2 := (bcell hb2).1 b (off + 2) hb; have d3 := (bcell hb2).1 b (off + 3) hb; rw [c0] at d0; rw [c1] at d1; rw [c2] at d2; rw [c3] at d3)
    refine wp_loop_rounds 5 ?_
    repeat any_goals (rw [rounds_succ]; go_wp2_with fail)
    refine (high_any k _).mono ?_
    rintro e w3 ⟨rfl, hb3⟩
    go_wp2_with fail
    refine (HFIT.out _).mono ?_
    rintro e w4 ⟨rfl, hb4⟩
    go_wp2
    go_ret2
    first
      | exact get_end_yes (by rw [HS.out]; omega) (by rw [HS.out]; rfl) HV.out HF.out (below_trans' (below_trans' hb2 hb3) hb4)
      | exact get_end_no (by rw [HS.out]; omega) (by rw [HS.out]; rfl) HV.out HF.out (below_trans' (below_trans' hb2 hb3) hb4)

theorem get_any (k : Int) (w : World) (A : Option Addr) (n c : Nat) (l : List Int) (h : Byt w w.heap.size A n c l) : Calls Try.prog 68 #[.int .i64 k, .slice A n c] w (GetPost k l w) := by
  by_cases h0 : kSize k = 0
  · exact get_none k w A n c l h0
  by_cases hl : kSize k = l.length
  case neg => exact get_len k w A n c l h.len h0 hl
  have h14 : kSize k = 1 ∨ kSize k = 2 ∨ kSize k = 4 := by
    rcases kind_cases k with rfl | rfl | rfl | rfl | rfl | rfl | rfl | hk
    all_goals first | (simp [kSize]; done) | (have := (k_other hk).1; omega)
  have hn := h.len
  rcases h14 with hs | hs | hs
  · obtain rfl : n = 1 := by omega
    obtain ⟨x, rfl⟩ : ∃ x, l = [x] := List.length_eq_one_iff.1 hn
    by_cases hh : kHigh k < x
    · exact get_1_1 k w A c x h hs hh
    · exact get_1_0 k w A c x h hs hh
  · obtain rfl : n = 2 := by omega
    obtain ⟨x, y, rfl⟩ : ∃ x y, l = [x, y] := by
      match l, hn with
      | [x, y], _ => exact ⟨x, y, rfl⟩
    by_cases hh : kHigh k < x + y * 256
    · exact get_2_1 k w A c x y h hs hh
    · exact get_2_0 k w A c x y h hs hh
  · obtain rfl : n = 4 := by omega
    obtain ⟨x, y, z, u, rfl⟩ : ∃ x y z u, l = [x, y, z, u] := by
      match l, hn with
      | [x, y, z, u], _ => exact ⟨x, y, z, u, rfl⟩
    by_cases hh : kHigh k < x + y * 256 + z * 65536 + u * 16777216
    · exact get_4_1 k w A c x y z u h hs hh
    · exact get_4_0 k w A c x y z u h hs hh
end Go.Proofs.Ytacfpdjpionolaa