/- What the document's Rem, Bits and its two checks answer. -/
import Derived.Test.YtkgnhmddnfmhjaaWPolyJ
namespace Go.Proofs.Ytkgnhmddnfmhjaa
open Go.RowKit
theorem btL_mod (s W : Nat) : btL s W = btL (s % 2 ^ W) W := by
  unfold btL
  refine List.map_congr_left fun i hi => ?_
  rw [List.mem_range] at hi
  unfold bt
  rw [Nat.testBit_mod_two_pow]
  simp [show W - 1 - i < W by omega]
theorem rem_def (W L s n : Nat) (l m : List Int) (hW : 1 ≤ W) (hn : l.length = n) (hm : m = addP (pl l ++ List.replicate W 0) (ofL (s : Int) W ++ List.replicate n 0) (n + W)) : wholeN W L m = remN W L s l := by
  have h1 : (ofL (s : Int) W ++ List.replicate n (0 : Int)).length = (pl l ++ List.replicate W (0 : Int)).length := by simp [ofL_len, pl_len]; omega
  have hx := whole_xor (W := W) (L := L) (pl l ++ List.replicate W 0) (ofL (s : Int) W ++ List.replicate n 0) m h1 (by rw [hm, addP_len]) (fun i hi => by
    rw [hm, addP_getD _ _ _ hi, if_pos (by simp [pl_len] at hi; omega)]
    exact b2_add (by omega))
  rw [hx, whole_noughts, whole_noughts, whole_pl', ofL_bt, btL_mod, whole_bits _ (Nat.mod_lt _ (Nat.two_pow_pos W)), ← rem_whole hW, rem_start s l, hn]

theorem rrem_any (W L s : Nat) (A : Option Addr) (n c : Nat) (l : List Int) (w : World) (hW1 : 1 ≤ W) (hW : W ≤ 31) (hL : L < 2 ^ W) (hs : s < 4294967296) (h : Byt w w.heap.size A n c l) (hn : n ≤ 100000) :
    Calls Try.prog 40 #[.int .i64 W, .int .u32 L, .int .u32 s, .slice A n c] w fun e w' => e = .returned (.int .u32 ((remN W L s l : Nat) : Int)) ∧ Below w.heap.size w w' := by
  have hrd := rem_def W L s n l _ hW1 h.len rfl
  rw [← hrd]
  have hpl := fun (w : World) (h : Byt w w.heap.size A n c l) => plain_own w A n c l h (by omega)
  have hof := fun w => rof_own (s : Int) (W : Int) w (by omega)
  rw [clamp_of (by omega)] at hof
  have hN1 := fun w => noughts_own W w (by omega)
  have hN2 := fun w => noughts_own n w (by omega)
  have hz : ∀ k, ∀ x ∈ List.replicate k (0 : Int), 0 ≤ x ∧ x ≤ 255 := fun k x hx => by rw [List.mem_replicate] at hx; omega
  have r1 : ∀ x ∈ pl l ++ List.replicate W (0 : Int), 0 ≤ x ∧ x ≤ 255 := fun x hx => by
    rw [List.mem_append] at hx
    rcases hx with hx | hx
    · exact pl_range l x hx
    · exact hz W x hx
  have r2 : ∀ x ∈ ofL (s : Int) W ++ List.replicate n (0 : Int), 0 ≤ x ∧ x ≤ 255 := fun x hx => by
    rw [List.mem_append] at hx
    rcases hx with hx | hx
    · exact ofL_range _ _ x hx
    · exact hz n x hx
  have hdiv := fun (w : World) (X : Option Addr) (c : Nat) (m : List Int) (h : Byt w w.heap.size X (n + W) c m) => rdivide_any W L X (n + W) c m w hW1 hW hL h (by omega)
  have HPL := Lib.hid hpl
  have HOF := Lib.hid hof
  have HN1 := Lib.hid hN1
  have HN2 := Lib.hid hN2
  have HZ := Lib.hid hz
  have R1 := Lib.hid r1
  have R2 := Lib.hid r2
  have HDIV := Lib.hid hdiv
  have HH := Lib.hid h
  clear hpl hof hN1 hN2 hz r1 r2 hdiv h hL hrd
  go_enter Try.func40, Try.ntmps40
  go_wp2_with fail
  refine (HPL.out _ HH.out).mono ?_
  rintro e w1 ⟨v1, rfl, hown1, hb1⟩
  go_wp2_with fail
  refine (HN1.out _).mono ?_
  rintro e w2 ⟨v2, rfl, hown2, hb2⟩
  obtain ⟨A2, c2, rfl, hB2, _⟩ := Byt.of_own hown2 (HZ.out W)
  have hown1' := own_below hown1 hb2
  have hs2 := below_trans' hb1 hb2
  go_wp2_with (at_builtin; refine wpList_bytes rfl (.tmp 12) (.tmp 14) rfl Try.underlying25 byte_info rfl hown1' rfl hB2 (by omega) hs2.size ?_; intro v3 w3 hown3 hb3)
  obtain ⟨A3, c3, rfl, hB3, _⟩ := Byt.of_own hown3 R1.out
  have hs3 := hs2.trans hb3
  clear hown1 hown2 hown1' hB2 hb3 hown3
  go_wp2_with fail
  refine (HOF.out _).mono ?_
  rintro e w4 ⟨v4, rfl, hown4, hb4⟩
  have hs4 := hs3.trans (hb4.mono hs3.size)
  go_wp2_with fail
  refine (HN2.out _).mono ?_
  rintro e w5 ⟨v5, rfl, hown5, hb5⟩
  obtain ⟨A5, c5, rfl, hB5, _⟩ := Byt.of_own hown5 (HZ.out n)
  have hown4' := own_below hown4 hb5
  have hb45 := below_trans' hb4 hb5
  go_wp2_with (at_builtin; refine wpList_bytes rfl (.tmp 18) (.tmp 21) rfl Try.underlying25 byte_info rfl hown4' rfl hB5 (by omega) hb45.size ?_; intro v6 w6 hown6 hb6)
  obtain ⟨A6, c6, rfl, hB6, _⟩ := Byt.of_own hown6 R2.out
  have hb36 := hb45.trans hb6
  have hs6 := hs3.trans (hb36.mono hs3.size)
  have hB36 := hB3.step hb36
  have hadd : Calls Try.prog 52 #[.slice A3 (n + W) c3, .slice A6 (W + n) c6] w6 fun e w' => ∃ A' c', e = .returned (.slice A' (n + W) c') ∧ Byt w' w'.heap.size A' (n + W) c' (addP (pl l ++ List.replicate W 0) (ofL (s : Int) W ++ List.replicate n 0) (n + W)) ∧ Below w6.heap.size w6 w' := by
    rw [Nat.add_comm W n] at hB6 ⊢
    exact radd_any w6 A3 A6 (n + W) c3 c6 _ _ hB36 hB6 (by omega) (by omega)
  have HADD := Lib.hid hadd
  clear hown4 hown5 hown4' hB5 hb6 hown6 hadd hB6 hB36 hB3
  go_wp2_with fail
  refine HADD.out.mono ?_
  rintro e w7 ⟨A7, c7, rfl, hB7, hb7⟩
  have hs7 := hs6.trans (hb7.mono hs6.size)
  have HB7 := Lib.hid hB7
  clear hB7
  go_wp2_with fail
  refine (HDIV.out _ _ _ _ HB7.out).mono ?_
  rintro e w8 ⟨rfl, hb8⟩
  go_wp2
  go_ret
  exact ⟨rfl, hs7.trans (hb8.mono hs7.size)⟩

theorem bits_step (l : List Int) (j : Nat) (h : j < l.length) : bitsB (l.take (j + 1)) = bitsB (l.take j) ++ ofL (l.getD j 0) 8 := by
  rw [take_succ_getD h, bitsB_snoc]
theorem rbits_any (A : Option Addr) (n c : Nat) (l : List Int) (w : World) (h : Byt w w.heap.size A n c l) (hn : n ≤ 10000) :
    Calls Try.prog 31 #[.slice A n c] w fun e w' => ∃ A' c', e = .returned (.slice A' (8 * n) c') ∧ Byt w' w'.heap.size A' (8 * n) c' (bitsB l) ∧ Below w.heap.size w w' := by
  have hl := h.len
  have HL := Lib.hid hl
  clear hl
  go_enter Try.func31, Try.ntmps31
  go_wp2_with fail
  go_loopw [4, 3] (fun i v wr => ∃ j : Nat, j ≤ n ∧ i = .int .i64 j ∧ wr.ownsRow w.heap.size 5 1 v (8 * j) ((bitsB (l.take j)).map (Value.int .u8)) ∧ Below w.heap.size w wr) (fun i _ _ => n - (intOf i).toNat)
  case atStart => exact ⟨0, Nat.zero_le _, rfl, World.ownsRow_lit w #[] 0 (Nat.le_refl _) (by simp [maxLen]) rfl, (Below.refl _ _).alloc (Nat.le_refl _) _⟩
  case round =>
    obtain ⟨j, hj, rfl, hown, hbel⟩ := hrel
    by_cases hlt : j < n
    · obtain ⟨b, off, rfl, hb, hc⟩ := h.cells (by omega)
      have hrange := h.range j
      have hcj := hc j hlt
      have hget := bits_step l j (by rw [HL.out]; exact hlt)
      generalize l.getD j 0 = q at hrange hcj hget
      have hof := fun w => rof_any q 8 w (by omega)
      rw [show clampW 8 = 8 from rfl] at hof
      have hcell : wr.cell? ⟨b, off + j, none⟩ = some (.int .u8 q) := (hbel.cell (p := ⟨b, off + j, none⟩) hb).trans hcj
      have HOF := Lib.hid hof
      have HG := Lib.hid hget
      have HC := Lib.hid hc
      have HH := Lib.hid h
      obtain ⟨hq0, hq1⟩ := hrange
      clear hof hget hc h hcj
      go_wp2_with fail
      refine (HOF.out _).mono ?_
      rintro e w1 ⟨A1, c1, rfl, hB1, hb1⟩
      have hown1 := own_below hown hb1
      have hbel1 := hbel.trans (hb1.mono hbel.size)
      go_wp2_with (at_builtin; refine wpList_bytes rfl (.tmp 12) (.tmp 18) rfl Try.underlying25 byte_info rfl hown1 rfl hB1 (by omega) hbel1.size ?_; intro v2 w2 hown2 hb2)
      go_roundw
      case rel => exact ⟨j + 1, by omega, by go_num, by rw [HG.out]; exact hown2, hbel1.trans hb2⟩
      case measure => simp [intOf]; omega
    · obtain rfl : n = j := by omega
      rw [List.take_of_length_le (by rw [HL.out]; exact Nat.le_refl _)] at hown
      clear h
      go_wp2
      go_ret
      obtain ⟨A', c', rfl, hB, _⟩ := Byt.of_own hown (fun x hx => by have := bitsB_bits l x hx; omega)
      exact ⟨_, _, rfl, hB, hbel⟩

theorem rcrc15_any (A : Option Addr) (n c : Nat) (l : List Int) (w : World) (h : Byt w w.heap.size A n c l) (hn : n ≤ 10000) :
    Calls Try.prog 32 #[.slice A n c] w fun e w' => e = .returned (.int .i64 ((remN 15 17817 0 l : Nat) : Int)) ∧ Below w.heap.size w w' := by
  have hr : ∀ (w : World), Byt w w.heap.size A n c l → Calls Try.prog 40 #[.int .i64 15, .int .u32 17817, .int .u32 0, .slice A n c] w fun e w' => e = .returned (.int .u32 ((remN 15 17817 0 l : Nat) : Int)) ∧ Below w.heap.size w w' := fun w h => rrem_any 15 17817 0 A n c l w (by omega) (by omega) (by omega) (by omega) h (by omega)
  have hlt := rem_lt (W := 15) (L := 17817) (by omega) 0 l
  generalize remN 15 17817 0 l = q at hr hlt
  have HR := Lib.hid hr
  clear hr
  go_enter Try.func32, Try.ntmps32
  go_wp2_with fail
  refine (HR.out _ h).mono ?_
  rintro e w1 ⟨rfl, hb1⟩
  go_wp2
  go_ret
  exact ⟨rfl, hb1⟩

end Go.Proofs.Ytkgnhmddnfmhjaa