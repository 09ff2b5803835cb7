/- What a divisor's May, Whole and Rem answer. -/
import Derived.Test.YtkgnhmddnfmhjaaWPolyB
namespace Go.Proofs.Ytkgnhmddnfmhjaa
open Go.RowKit
/-- Block g holds a divisor. -/
structure PAt (w : World) (g W L : Nat) : Prop where
  c0 : w.cell? ⟨g, 0, none⟩ = some (.int .i64 W)
  c1 : w.cell? ⟨g, 1, none⟩ = some (.int .u32 L)
  lt : g < w.heap.size
theorem PAt.below {w w' : World} {g W L : Nat} (h : PAt w g W L) (hb : Below w.heap.size w w') : PAt w' g W L :=
  ⟨(hb.cell (p := ⟨g, 0, none⟩) h.lt).trans h.c0, (hb.cell (p := ⟨g, 1, none⟩) h.lt).trans h.c1, Nat.lt_of_lt_of_le h.lt hb.size⟩
theorem PAt.new (w : World) (W L : Nat) : PAt (w.alloc (Obj.cells #[Value.int IntKind.i64 ↑W, Value.int IntKind.u32 ↑L] 59)) w.heap.size W L :=
  ⟨by rw [cell_of_row _ _ _ _ _ _ (heap_alloc_new w _)]; rfl, by rw [cell_of_row _ _ _ _ _ _ (heap_alloc_new w _)]; rfl, by simp⟩

theorem may_yes (W L : Nat) (w : World) (hW1 : 1 ≤ W) (hW : W ≤ 31) (hL : L < 2 ^ W) :
    Calls Try.prog 46 #[.agg #[.int .i64 W, .int .u32 L]] w fun e w' => e = .returned (.bool true) ∧ Below w.heap.size w w' := by
  have hp := pow32 hW
  have hsh : ((W : Int)).toNat = W := by omega
  have hmin : min W 32 = W := by omega
  have hd1 : decide (1 ≤ (W : Int)) = true := by simp; omega
  have hd2 : decide ((W : Int) ≤ 31) = true := by simp; omega
  have hd3 : ((L : Int) / 2 ^ W == 0) = true := by
    have : ((L : Int) / 2 ^ W) = ((L / 2 ^ W : Nat) : Int) := by simp
    rw [this, Nat.div_eq_of_lt hL]; rfl
  clear hL
  go_enter Try.func46, Try.ntmps46
  go_wp2_with fail
  go_ret
  exact ⟨rfl, (Below.refl _ _).alloc (Nat.le_refl _) _⟩

theorem may_no (W : Int) (L : Nat) (w : World) (h : ¬ (1 ≤ W ∧ W ≤ 31 ∧ L < 2 ^ W.toNat)) :
    Calls Try.prog 46 #[.agg #[.int .i64 W, .int .u32 L]] w fun e w' => e = .returned (.bool false) ∧ Below w.heap.size w w' := by
  by_cases h1 : 1 ≤ W
  · by_cases h2 : W ≤ 31
    · have h3 : ¬ L < 2 ^ W.toNat := fun e => h ⟨h1, h2, e⟩
      obtain ⟨V, rfl⟩ : ∃ V : Nat, W = V := ⟨W.toNat, by omega⟩
      have hp := pow32 (W := V) (by omega)
      have hsh : ((V : Int)).toNat = V := by omega
      rw [hsh] at h3
      have hmin : min V 32 = V := by omega
      have hd1 : decide (1 ≤ (V : Int)) = true := by simp; omega
      have hd2 : decide ((V : Int) ≤ 31) = true := by simp; omega
      have hd3 : ((L : Int) / 2 ^ V == 0) = false := by
        have : ((L : Int) / 2 ^ V) = ((L / 2 ^ V : Nat) : Int) := by simp
        rw [this]
        have := Nat.div_pos (Nat.le_of_not_lt h3) (Nat.two_pow_pos V)
        simp; omega
      clear h h3
      go_enter Try.func46, Try.ntmps46
      go_wp2_with fail
      go_ret
      exact ⟨rfl, (Below.refl _ _).alloc (Nat.le_refl _) _⟩
    · have hd1 : decide (1 ≤ W) = true := by simp; omega
      have hd2 : decide (W ≤ 31) = false := by simp; omega
      clear h
      go_enter Try.func46, Try.ntmps46
      go_wp2_with fail
      go_ret
      exact ⟨rfl, (Below.refl _ _).alloc (Nat.le_refl _) _⟩
  · have hd1 : decide (1 ≤ W) = false := by simp; omega
    clear h
    go_enter Try.func46, Try.ntmps46
    go_wp2_with fail
    go_ret
    exact ⟨rfl, (Below.refl _ _).alloc (Nat.le_refl _) _⟩
theorem and_one' (x : Int) (h0 : 0 ≤ x) (h1 : x ≤ 255) : bits .and .u8 x 1 = ((b2 x : Nat) : Int) := by rw [and_one x h0 h1, b2_cast]

theorem rem_no (W : Int) (L : Nat) (s : Int) (A : Option Addr) (n c : Nat) (w : World) (h : ¬ (1 ≤ W ∧ W ≤ 31 ∧ L < 2 ^ W.toNat)) :
    Calls Try.prog 38 #[.agg #[.int .i64 W, .int .u32 L], .int .u32 s, .slice A n c] w fun e w' => e = .returned (.int .u32 0) ∧ Below w.heap.size w w' := by
  have hm := fun w => may_no W L w h
  have HM := Lib.hid hm
  clear hm h
  go_enter Try.func38, Try.ntmps38
  go_wp2_with fail
  refine (HM.out _).mono ?_
  rintro e w1 ⟨rfl, hb1⟩
  go_wp2
  go_ret
  exact ⟨rfl, ((Below.refl _ _).alloc (Nat.le_refl _) _).trans (hb1.mono (by simp))⟩

theorem rem_yes (W L s : Nat) (A : Option Addr) (n c : Nat) (l : List Int) (w : World) (hW1 : 1 ≤ W) (hW : W ≤ 31) (hL : L < 2 ^ W) (hs : s < 4294967296) (h : Byt w w.heap.size A n c l) :
    Calls Try.prog 38 #[.agg #[.int .i64 W, .int .u32 L], .int .u32 s, .slice A n c] w fun e w' => e = .returned (.int .u32 ((remN W L s l : Nat) : Int)) ∧ Below w.heap.size w w' := by
  have hm := fun w => may_yes W L w hW1 hW hL
  have HM := Lib.hid hm
  have hlow := fun w => plow_any W L s w hW hs
  have HLOW := Lib.hid hlow
  have hp := pow32 hW
  have hcap := h.cap
  have hmx := h.max
  simp only [maxLen] at hmx
  have HL := Lib.hid hL
  have hsh : ((W : Int) - 1).toNat = W - 1 := by omega
  have hmin : min (W - 1) 32 = W - 1 := by omega
  have hle : 1 ≤ (W : Int) := by omega
  clear hm hL hlow
  have hbw : Below w.heap.size w (w.alloc (Obj.cells #[Value.int IntKind.i64 ↑W, Value.int IntKind.u32 ↑L] 59)) := (Below.refl _ _).alloc (Nat.le_refl _) _
  have hP := PAt.new w W L
  have HB := Lib.hid hbw
  have HP := Lib.hid hP
  clear hbw hP
  go_enter Try.func38, Try.ntmps38
  go_wp2_with fail
  generalize (w.alloc (Obj.cells #[Value.int IntKind.i64 ↑W, Value.int IntKind.u32 ↑L] 59)) = w0 at HB HP
  refine (HM.out _).mono ?_
  rintro e w1 ⟨rfl, hb1⟩
  have hP1 := HP.out.below hb1
  have hbw1 := HB.out.trans (hb1.mono HB.out.size)
  have hc0 := hP1.c0
  have hc1 := hP1.c1
  have HP1 := Lib.hid hP1
  clear hP1
  go_wp2_with fail
  refine (HLOW.out _).mono ?_
  rintro e w2 ⟨rfl, hb2⟩
  have hP2 := HP1.out.below hb2
  have hbw2 := hbw1.trans (hb2.mono hbw1.size)
  clear hc0 hc1
  go_wp2_with fail
  go_loopw [18, 7] (fun i v wr => ∃ j : Nat, j ≤ n ∧ i = .int .i64 j ∧ v = .int .u32 ((remN W L s (l.take j) : Nat) : Int) ∧ PAt wr w.heap.size W L ∧ Below w.heap.size w wr) (fun i _ _ => n - (intOf i).toNat)
  case atStart => exact ⟨0, Nat.zero_le _, rfl, rfl, hP2, hbw2⟩
  case round =>
    obtain ⟨j, hj, rfl, rfl, hPr, hbel⟩ := hrel
    have hc0 := hPr.c0
    have hc1 := hPr.c1
    have hgl := hPr.lt
    by_cases hlt : j < n
    · obtain ⟨b, off, rfl, hb, hc⟩ := h.cells (by omega)
      have hrange := h.range j
      have hcj := hc j hlt
      have hget : remN W L s (l.take (j + 1)) = raiseN W L (remN W L s (l.take j) ^^^ b2 (l.getD j 0) * 2 ^ (W - 1)) := by rw [take_succ_getD (by rw [h.len]; exact hlt), rem_snoc]
      have htop := top_lt hW1 (l.getD j 0)
      have hN := rem_lt HL.out s (l.take j)
      generalize remN W L s (l.take j) = N at hget hN
      generalize l.getD j 0 = q at hrange hcj hget htop
      have hb2 := b2_lt q
      have hand := and_one' q hrange.1 hrange.2
      have hxl : N ^^^ b2 q * 2 ^ (W - 1) < 2 ^ W := Nat.xor_lt_two_pow hN htop
      have hxor : bits .xor .u32 (N : Int) (((b2 q * 2 ^ (W - 1) : Nat)) : Int) = ((N ^^^ b2 q * 2 ^ (W - 1) : Nat) : Int) := u32_xor_nat _ _ (by omega) (by omega)
      have hr := fun w => raised_any W L (N ^^^ b2 q * 2 ^ (W - 1)) w hW1 hW HL.out hxl
      have hcell : wr.cell? ⟨b, off + j, none⟩ = some (.int .u8 q) := (hbel.cell (p := ⟨b, off + j, none⟩) hb).trans hcj
      have hsl : ((b2 q : Nat) : Int) * 2 ^ (W - 1) = ((b2 q * 2 ^ (W - 1) : Nat) : Int) := by simp
      generalize b2 q = v at hand hget hb2 hsl hxor hr htop
      generalize hT : v * 2 ^ (W - 1) = T at hget hsl hxor hr htop
      generalize (N ^^^ T) = X at hget hxor hr
      have HR := Lib.hid hr
      have HG := Lib.hid hget
      have HX := Lib.hid hxor
      have HT := Lib.hid hT
      have HSL := Lib.hid hsl
      have HC := Lib.hid hc
      have HH := Lib.hid h
      have HPR := Lib.hid hPr
      obtain ⟨hq0, hq1⟩ := hrange
      clear hr hget hxor hc h hcj hPr hP2 hT hsl
      have hsl := HSL.out
      have hxor := HX.out
      have g1 : IntKind.i64.wrap ((W : Int) - 1) = (W : Int) - 1 := IntWalk.i64_in _ (by omega)
      have g2 : IntKind.u32.wrap (v : Int) = (v : Int) := IntWalk.u32_in _ (by omega)
      have g3 : IntKind.u32.wrap (T : Int) = (T : Int) := IntWalk.u32_in _ (by omega)
      go_wp2_with fail
      go_region_held3 (fun w' => w'.cell? ⟨w.heap.size, 0, none⟩ = some (.int .i64 W) ∧ w'.cell? ⟨w.heap.size, 1, none⟩ = some (.int .u32 L) ∧ Below w.heap.size w w' ∧ w.heap.size < w'.heap.size)
        (first | exact ⟨hc0, hc1, hbel.drew, hgl⟩ | exact ⟨(hb1'.cell (p := ⟨w.heap.size, 0, none⟩) (by assumption)).trans (by assumption), (hb1'.cell (p := ⟨w.heap.size, 1, none⟩) (by assumption)).trans (by assumption), Below.trans hbel.drew (hb1'.mono (Nat.le_of_lt (by assumption))), Nat.lt_of_lt_of_le (by assumption) hb1'.size⟩)
        (first | (go_at_call 48; refine (HR.out _).mono ?_; rintro e w3 ⟨rfl, hb1'⟩))
      rename_i hS
      obtain ⟨k0, k1, hbf, hlf⟩ := hS
      clear hsl hxor g1 g2 g3 hand hc0 hc1
      go_wp2
      go_roundw
      case rel => exact ⟨j + 1, by omega, by go_num, by rw [HG.out], ⟨k0, k1, hlf⟩, hbf⟩
      case measure => simp [intOf]; omega
    · obtain rfl : j = n := by omega
      have hl := h.len
      rw [List.take_of_length_le (by omega)]
      clear hl h hPr
      go_wp2
      go_ret
      exact ⟨rfl, hbel⟩
end Go.Proofs.Ytkgnhmddnfmhjaa