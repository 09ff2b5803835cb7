/- What the document's noughts, divisor, add, Divide, Rem, Bits and its two checks answer. -/
import Derived.Lib.SmallJoins
import Derived.Test.YtkgnhmddnfmhjaaWPolyG
namespace Go.Proofs.Ytkgnhmddnfmhjaa
open Go.RowKit
theorem plain_own (w : World) (A : Option Addr) (n c : Nat) (l : List Int) (h : Byt w w.heap.size A n c l) (hn : n ≤ 140737488355327) : Calls Try.prog 49 #[.slice A n c] w fun e w' => ∃ v, e = .returned v ∧ w'.ownsRow w.heap.size 5 1 v n ((pl l).map (Value.int .u8)) ∧ Below w.heap.size w w' := by
  go_enter Try.func49, Try.ntmps49
  go_wp2_with fail
  go_loopw [4, 3] (fun i v wr => ∃ j : Nat, j ≤ n ∧ i = .int .i64 j ∧ wr.ownsRow w.heap.size 5 1 v j ((pl (l.take j)).map (Value.int .u8)) ∧ Below w.heap.size w wr) (fun i _ _ => n - (intOf i).toNat)
  case atStart => exact ⟨0, Nat.zero_le _, rfl, World.ownsRow_lit w #[] 0 (Nat.le_refl _) (by simp [maxLen]) rfl, (Below.refl _ _).alloc (Nat.le_refl _) _⟩
  case round =>
    obtain ⟨j, hj, rfl, hown, hbel⟩ := hrel
    by_cases hlt : j < n
    · obtain ⟨b, off, rfl, hb, hc⟩ := h.cells (by omega)
      have hrange := h.range j
      have hcj := hc j hlt
      have hget : pl (l.take (j + 1)) = pl (l.take j) ++ [l.getD j 0 % 2] := by
        rw [take_succ_getD (by rw [h.len]; exact hlt)]; simp [pl]
      generalize l.getD j 0 = q at hrange hcj hget
      have hcell : wr.cell? ⟨b, off + j, none⟩ = some (.int .u8 q) := (hbel.cell (p := ⟨b, off + j, none⟩) hb).trans hcj
      have HG := Lib.hid hget
      have HC := Lib.hid hc
      have HH := Lib.hid h
      obtain ⟨hq0, hq1⟩ := hrange
      clear hcj hget hc h
      go_wp2_with (at_builtin; refine wpList_byte rfl (.tmp 12) (.tmp 18) rfl Try.underlying25 byte_info rfl hown rfl (by omega) hbel.size ?_; intro v' w' hown' hbel')
      go_roundw
      case rel => exact ⟨j + 1, by omega, by go_num, by rw [HG.out]; exact hown', hbel.trans hbel'⟩
      case measure => simp [intOf]; omega
    · obtain rfl : j = n := by omega
      have hl := h.len
      go_wp2
      go_ret
      rw [List.take_of_length_le (by omega)] at hown
      exact ⟨_, rfl, hown, hbel⟩

theorem rof_own (n v : Int) (w : World) (hn : 0 ≤ n ∧ n ≤ 4294967295) :
    Calls Try.prog 30 #[.int .u32 n, .int .i64 v] w fun e w' => ∃ u, e = .returned u ∧ w'.ownsRow w.heap.size 5 1 u (clampW v) ((ofL n (clampW v)).map (Value.int .u8)) ∧ Below w.heap.size w w' := by
  obtain ⟨W, hW⟩ : ∃ W, clampW v = W := ⟨_, rfl⟩
  have hW32 : W ≤ 32 := by rw [← hW]; exact clamp_le v
  have hvW : ∀ k : Nat, k ≤ 31 → ((k : Int) < v ↔ k < W) := fun k hk => by
    have h := hW
    unfold clampW at h
    omega
  rw [hW]
  obtain ⟨n0, n1⟩ := hn
  have HV := Lib.hid hvW
  clear hvW hW
  go_enter Try.func30, Try.ntmps30
  go_wp2_with fail
  go_loopw [6, 5] (fun i v wr => ∃ k : Nat, k ≤ 32 ∧ i = .int .i64 ((k : Int) - 1) ∧ wr.ownsRow w.heap.size 5 1 v (W - k) ((ofU n W k).map (Value.int .u8)) ∧ Below w.heap.size w wr) (fun i _ _ => (intOf i + 1).toNat)
  case atStart => exact ⟨32, by omega, rfl, by rw [ofU_top n hW32, show W - 32 = 0 by omega]; exact World.ownsRow_lit w #[] 0 (Nat.le_refl _) (by simp [maxLen]) rfl, (Below.refl _ _).alloc (Nat.le_refl _) _⟩
  case round =>
    obtain ⟨k1, hk, rfl, hown, hbel⟩ := hrel
    rcases Nat.eq_zero_or_pos k1 with h0 | h0
    · subst h0
      go_wp2_with fail
      go_ret
      rw [ofU_zero] at hown
      exact ⟨_, rfl, hown, hbel⟩
    · obtain ⟨k, rfl⟩ : ∃ k, k1 = k + 1 := ⟨k1 - 1, by omega⟩
      have e1 : (((k + 1 : Nat) : Int) - 1) = (k : Int) := by omega
      rw [e1]
      have hiff := HV.out k (by omega)
      have hdiv : 0 ≤ n / 2 ^ k := Int.ediv_nonneg n0 (Int.le_of_lt (Int.pow_pos (by omega)))
      have hdiv2 : n / 2 ^ k ≤ n := Int.ediv_le_self _ n0
      have hpos : (0 : Int) < 2 ^ k := Int.pow_pos (by omega)
      have hpw := fun w => power_any (k : Int) w (by omega) (by omega)
      rw [Int.toNat_natCast] at hpw
      by_cases hkv : (k : Int) < v
      · have hstep := ofU_step n (hiff.1 hkv)
        have hlen : W - k = W - (k + 1) + 1 := by have := hiff.1 hkv; omega
        have hW1 : W - (k + 1) + 1 ≤ 32 := by omega
        generalize (2 : Int) ^ k = p at hdiv hdiv2 hpos hpw hstep
        generalize W - (k + 1) = m at hown hlen hW1
        have HPW := Lib.hid hpw
        have HS := Lib.hid hstep
        have HL := Lib.hid hlen
        have hp1 : (p == 0) = false := by simp; omega
        clear hpw hstep hlen hiff e1
        go_wp2_with (first | (go_at_call 39; refine (HPW.out _).mono ?_; rintro e w1 ⟨rfl, rfl⟩) | (at_builtin; refine wpList_byte rfl (.tmp 15) (.tmp 22) rfl Try.underlying25 byte_info rfl hown rfl (by omega) hbel.size ?_; intro v' w' hown' hbel'))
        go_roundw
        case rel => exact ⟨k, by omega, rfl, by rw [HL.out, HS.out]; exact hown', hbel.trans hbel'⟩
        case measure => simp [intOf]
      · have hge : W ≤ k := Nat.le_of_not_lt (fun h => hkv (hiff.2 h))
        have hsame := ofU_same n hge
        have hlen : W - k = W - (k + 1) := by omega
        have HS := Lib.hid hsame
        have HL := Lib.hid hlen
        clear hpw hsame hlen hiff e1 hdiv hdiv2 hpos
        go_wp2_with fail
        go_roundw
        case rel => exact ⟨k, by omega, rfl, by rw [HL.out, HS.out]; exact hown, hbel⟩
        case measure => simp [intOf]

theorem noughts_own (k : Nat) (w : World) (hk : k ≤ 1000000) :
    Calls Try.prog 50 #[.int .i64 k] w fun e w' => ∃ v, e = .returned v ∧ w'.ownsRow w.heap.size 5 1 v k ((List.replicate k (0 : Int)).map (Value.int .u8)) ∧ Below w.heap.size w w' := by
  go_enter Try.func50, Try.ntmps50
  go_wp2_with fail
  go_loopw [4, 3] (fun i v wr => ∃ j : Nat, j ≤ k ∧ i = .int .i64 j ∧ wr.ownsRow w.heap.size 5 1 v j ((List.replicate j (0 : Int)).map (Value.int .u8)) ∧ Below w.heap.size w wr) (fun i _ _ => k - (intOf i).toNat)
  case atStart => exact ⟨0, Nat.zero_le _, rfl, World.ownsRow_lit w #[] 0 (Nat.le_refl _) (by simp [maxLen]) rfl, (Below.refl _ _).alloc (Nat.le_refl _) _⟩
  case round =>
    obtain ⟨j, hj, rfl, hown, hbel⟩ := hrel
    by_cases hlt : j < k
    · have hget : List.replicate (j + 1) (0 : Int) = List.replicate j 0 ++ [0] := List.replicate_succ'
      have HG := Lib.hid hget
      clear hget
      go_wp2_with (at_builtin; refine wpList_byte rfl (.tmp 11) (.tmp 12) rfl Try.underlying25 byte_info rfl hown rfl (by omega) hbel.size ?_; intro v' w' hown' hbel')
      go_roundw
      case rel => exact ⟨j + 1, by omega, by go_num, by rw [HG.out]; exact hown', hbel.trans hbel'⟩
      case measure => simp [intOf]; omega
    · obtain rfl : j = k := by omega
      go_wp2
      go_ret
      exact ⟨_, rfl, hown, hbel⟩

theorem divisor_any (W : Nat) (L : Nat) (w : World) (hW : W ≤ 31) (hL : L < 4294967296) :
    Calls Try.prog 53 #[.int .i64 W, .int .u32 L] w fun e w' => ∃ A c, e = .returned (.slice A (1 + W) c) ∧ Byt w' w'.heap.size A (1 + W) c (1 :: btL L W) ∧ Below w.heap.size w w' := by
  have hof := fun w => rof_any (L : Int) (W : Int) w (by omega)
  rw [clamp_of (by omega), ofL_bt] at hof
  have hr : ∀ x ∈ (1 : Int) :: btL L W, 0 ≤ x ∧ x ≤ 255 := fun x hx => by
    rw [List.mem_cons] at hx
    rcases hx with rfl | hx
    · omega
    · simp only [btL, List.mem_map] at hx
      obtain ⟨i, _, rfl⟩ := hx
      have := bt_bit L (W - 1 - i)
      omega
  generalize btL L W = b at hof hr
  have HOF := Lib.hid hof
  have HR := Lib.hid hr
  clear hof hr
  go_enter Try.func53, Try.ntmps53
  go_wp2_with fail
  refine (HOF.out _).mono ?_
  rintro e w1 ⟨A1, c1, rfl, hB1, hb1⟩
  have hb0 : Below w.heap.size w w1 := ((Below.refl _ _).alloc (Nat.le_refl _) _).trans (hb1.mono (by simp))
  have hown1 : (w.alloc (.cells #[.int .u8 1] 5)).ownsRow w.heap.size 5 1 (.slice (some ⟨w.heap.size, 0, none⟩) 1 1) 1 (([1] : List Int).map (Value.int .u8)) := World.ownsRow_lit w #[.int .u8 1] 1 (Nat.le_refl _) (by simp [maxLen]) rfl
  have hown2 := own_below hown1 hb1
  go_wp2_with (at_builtin; refine wpList_bytes rfl (.tmp 5) (.tmp 8) rfl Try.underlying25 byte_info rfl hown2 rfl hB1 (by omega) hb0.size ?_; intro v' w2 hown3 hbel3)
  go_ret
  obtain ⟨A', c', rfl, hB, _⟩ := Byt.of_own hown3 HR.out
  exact ⟨_, _, rfl, hB, hb0.trans hbel3⟩
end Go.Proofs.Ytkgnhmddnfmhjaa