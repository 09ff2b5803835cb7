/- What core answers. -/
import Derived.Test.YtkgnhmddnfmhjaaWireA
namespace Go.Proofs.Ytkgnhmddnfmhjaa
open Go.RowKit

theorem own_base {w : World} {base base' : Nat} {e : TypeId} {size : Nat} {v : Value} {n : Nat} {xs : List Value} (h : w.ownsRow base e size v n xs) (hb : base' ≤ base) : w.ownsRow base' e size v n xs :=
  ⟨h.1, h.2.imp id fun ⟨g, cap, cur, h1, h2, h3⟩ => ⟨g, cap, cur, h1, Nat.le_trans hb h2, h3⟩⟩
theorem byt_range_of {i n : Int} {r : Bool} {d : Nat → Int} (hd : ∀ j, j < 8 → 0 ≤ d j ∧ d j ≤ 255) : ∀ x ∈ bOf i r n d, 0 ≤ x ∧ x ≤ 255 := by
  unfold bOf
  split
  · rename_i h
    have := chk_len h.2
    exact bL_range _ _ (by omega) hd
  · simp
theorem bof_le (i n : Int) (r : Bool) (d : Nat → Int) : (bOf i r n d).length ≤ 8 := by
  unfold bOf
  split
  · rename_i h
    have := chk_len h.2
    rw [bL_len]; omega
  · simp
set_option maxHeartbeats 2000000 in
theorem core_any (i n : Int) (r : Bool) (d : Nat → Int) (w : World) (hi : 0 ≤ i ∧ i ≤ 2047) (hn : 0 ≤ n ∧ n ≤ 8) (hd : ∀ j, j < 8 → 0 ≤ d j ∧ d j ≤ 255) :
    Calls Try.prog 18 #[.agg #[.int .i64 i, .bool r, .int .i64 n, .int .u8 (d 0), .int .u8 (d 1), .int .u8 (d 2), .int .u8 (d 3), .int .u8 (d 4), .int .u8 (d 5), .int .u8 (d 6), .int .u8 (d 7)]] w fun e w' => ∃ v, e = .returned v ∧ w'.ownsRow w.heap.size 5 1 v (coreL i n r (bOf i r n d)).length ((coreL i n r (bOf i r n d)).map (Value.int .u8)) ∧ Below w.heap.size w w' := by
  obtain ⟨hi0, hi1⟩ := hi
  obtain ⟨hn0, hn1⟩ := hn
  cases r with
  | true =>
    have hcs : Cs i n true d w (.slice none 0 0) 0 [] (w.alloc (.cells #[.int .i64 i, .bool true, .int .i64 n, .int .u8 (d 0), .int .u8 (d 1), .int .u8 (d 2), .int .u8 (d 3), .int .u8 (d 4), .int .u8 (d 5), .int .u8 (d 6), .int .u8 (d 7)] 24)) := ⟨World.ownsRow_nil _ _ _ _, frame_new w i n true d, (Below.refl _ _).alloc (Nat.le_refl _) _, by simp⟩
    have hby := fun w => bytes_new i n true d w hd
    have hlb := byt_range_of hd (i := i) (n := n) (r := true)
    have hm8 := bof_le i n true d
    generalize hbl : bOf i true n d = lb at hby hlb hm8 ⊢
    generalize hml : lb.length = m at hby hm8
    have HC := Lib.hid hcs
    have HBY := Lib.hid hby
    have HLB := Lib.hid hlb
    have HML := Lib.hid hml
    clear hcs hby hlb hd hbl hml
    go_enter Try.func18, Try.ntmps18
    obtain ⟨c0, c1, c2, c3, c4, c5, c6, c7, c8, c9, c10⟩ := HC.out.fr.cells
    go_wp2_with (first
      | (go_at_call_of 26 (Value.int IntKind.i64 1); refine (HC.out.num ⟨by omega, by omega⟩ cw1 (by omega)).mono ?_; rintro e w1 ⟨v1, rfl, h1, hg1, ha1⟩; clear c0 c1 c2 c3 c4 c5 c6 c7 c8 c9 c10; obtain ⟨c0, c1, c2, c3, c4, c5, c6, c7, c8, c9, c10⟩ := h1.fr.cells; have HN := Lib.hid h1; clear h1 hg1 ha1 HC; have HC := HN; clear HN)
      | (go_at_call_of 26 (Value.int IntKind.i64 11); refine (HC.out.num ⟨by omega, by omega⟩ cw11 (by omega)).mono ?_; rintro e w1 ⟨v1, rfl, h1, hg1, ha1⟩; clear c0 c1 c2 c3 c4 c5 c6 c7 c8 c9 c10; obtain ⟨c0, c1, c2, c3, c4, c5, c6, c7, c8, c9, c10⟩ := h1.fr.cells; have HN := Lib.hid h1; clear h1 hg1 ha1 HC; have HC := HN; clear HN)
      | (go_at_call_of 26 (Value.int IntKind.i64 2); refine (HC.out.num ⟨by omega, by omega⟩ cw2 (by omega)).mono ?_; rintro e w1 ⟨v1, rfl, h1, hg1, ha1⟩; clear c0 c1 c2 c3 c4 c5 c6 c7 c8 c9 c10; obtain ⟨c0, c1, c2, c3, c4, c5, c6, c7, c8, c9, c10⟩ := h1.fr.cells; have HN := Lib.hid h1; clear h1 hg1 ha1 HC; have HC := HN; clear HN)
      | (go_at_call_of 26 (Value.int IntKind.i64 4); refine (HC.out.num ⟨by omega, by omega⟩ cw4 (by omega)).mono ?_; rintro e w1 ⟨v1, rfl, h1, hg1, ha1⟩; clear c0 c1 c2 c3 c4 c5 c6 c7 c8 c9 c10; obtain ⟨c0, c1, c2, c3, c4, c5, c6, c7, c8, c9, c10⟩ := h1.fr.cells; have HN := Lib.hid h1; clear h1 hg1 ha1 HC; have HC := HN; clear HN)
      | (go_at_call 27; refine (HBY.out _).mono ?_; rintro e w2 ⟨A, z, rfl, hA, hB, hb⟩; have h2 := HC.out.step hb; have hsep : ∀ b off, A = some ⟨b, off, none⟩ → v1.ownBlock ≠ some b := fun b off e1 e2 => by have := hA b off e1; have := HC.out.own.lt _ e2; omega))
    have HC2 := Lib.hid h2
    have HB := Lib.hid hB
    have HSEP := Lib.hid hsep
    clear HC HBY hA hb h2 hB hsep c0 c1 c2 c3 c4 c5 c6 c7 c8 c9 c10
    have h0 : Cs i n true d w v1 (19 + 8 * 0) (headL i n true ++ bitsB (lb.take 0)) w2 := by
      have := HC2.out
      simpa [headL, bitsB] using this
    have H0 := Lib.hid h0
    clear h0 HC2
    go_loopw [26, 4] (fun x v wr => ∃ j : Nat, j ≤ m ∧ x = .int .i64 j ∧ Hid (Cs i n true d w v (19 + 8 * j) (headL i n true ++ bitsB (lb.take j)) wr) ∧ Hid (Byt wr wr.heap.size A m z lb) ∧ Hid (∀ b off, A = some ⟨b, off, none⟩ → v.ownBlock ≠ some b)) (fun x _ _ => m - (intOf x).toNat)
    case atStart => exact ⟨0, Nat.zero_le _, rfl, H0, HB, HSEP⟩
    case round =>
      obtain ⟨j, hj, rfl, HCj, HBj, HSj⟩ := hrel
      clear H0 HB HSEP
      by_cases hlt : j < m
      · obtain ⟨b, off, rfl, hb, hc⟩ := HBj.out.cells (by omega)
        have hcj := hc j hlt
        have hget := bits_step lb j (by rw [HML.out]; exact hlt)
        have hr := HBj.out.range j
        generalize lb.getD j 0 = q at hcj hget hr
        obtain ⟨hq0, hq1⟩ := hr
        have HGET := Lib.hid hget
        clear hc hget
        go_wp2_with (go_at_call_of 26 (Value.int IntKind.i64 8); refine (HCj.out.num ⟨hq0, by omega⟩ cw8 (by omega)).mono ?_; rintro e w3 ⟨v3, rfl, h3, hg3, ha3⟩)
        go_roundw
        case rel =>
          refine ⟨j + 1, by omega, by go_num, Lib.hid ?_, Lib.hid (HBj.out.grown hg3 HSj.out), Lib.hid ?_⟩
          · rw [HGET.out, ← List.append_assoc, show 19 + 8 * (j + 1) = 19 + 8 * j + 8 by omega]; exact h3
          · intro b' off' e1 e2
            rcases ha3 with h | ⟨g, h, hg⟩
            · rw [h] at e2; exact HSj.out b' off' e1 e2
            · rw [h] at e2; cases e2; cases e1; omega
        case measure => simp [intOf]; omega
      · obtain rfl : j = m := by omega
        have h4 := HCj.out
        rw [List.take_of_length_le (by rw [HML.out]; exact Nat.le_refl _), show headL i n true ++ bitsB lb = foreL i n true lb from rfl] at h4
        obtain ⟨A5, z5, rfl, hB5, _⟩ := Byt.of_own h4.own (bits_range (fore_bits _ _ _ _))
        have hcr := fun w h => crc15_any A5 (19 + 8 * j) z5 (foreL i n true lb) w h
        have hq15 := crc_le (foreL i n true lb)
        have hlen : (coreL i n true lb).length = 19 + 8 * j + 15 := by rw [core_len, HML.out]; omega
        obtain ⟨q, hq⟩ : ∃ q : Nat, remN 15 17817 0 (foreL i n true lb) = q := ⟨_, rfl⟩
        simp only [hq] at hcr hq15
        have hcore : coreL i n true lb = foreL i n true lb ++ ofL (q : Int) 15 := by unfold coreL; rw [hq]
        have HCO := Lib.hid hcore
        have HLE := Lib.hid hlen
        have HCR := Lib.hid hcr
        have H4 := Lib.hid h4
        have HB5 := Lib.hid hB5
        clear hcr h4 hB5 hcore hlen hq HCj HBj HSj
        go_wp2_with (first
          | (go_at_call 28; refine (HCR.out _ HB5.out).mono ?_; rintro e w5 ⟨rfl, hb5⟩; have h5 := H4.out.step hb5; clear hb5)
          | (go_at_call_of 26 (Value.int IntKind.i64 15); refine (h5.num ⟨by omega, hq15⟩ cw15 (by omega)).mono ?_; rintro e w6 ⟨v6, rfl, h6, hg6, ha6⟩))
        exact bodyPost_ret (results_tmp rfl _ _ _) rfl ⟨v6, rfl, by rw [HLE.out, HCO.out]; exact own_base h6.own (by omega), h6.bel⟩

  | false =>
    have hcs : Cs i n false d w (.slice none 0 0) 0 [] (w.alloc (.cells #[.int .i64 i, .bool false, .int .i64 n, .int .u8 (d 0), .int .u8 (d 1), .int .u8 (d 2), .int .u8 (d 3), .int .u8 (d 4), .int .u8 (d 5), .int .u8 (d 6), .int .u8 (d 7)] 24)) := ⟨World.ownsRow_nil _ _ _ _, frame_new w i n false d, (Below.refl _ _).alloc (Nat.le_refl _) _, by simp⟩
    have hby := fun w => bytes_new i n false d w hd
    have hlb := byt_range_of hd (i := i) (n := n) (r := false)
    have hm8 := bof_le i n false d
    generalize hbl : bOf i false n d = lb at hby hlb hm8 ⊢
    generalize hml : lb.length = m at hby hm8
    have HC := Lib.hid hcs
    have HBY := Lib.hid hby
    have HLB := Lib.hid hlb
    have HML := Lib.hid hml
    clear hcs hby hlb hd hbl hml
    go_enter Try.func18, Try.ntmps18
    obtain ⟨c0, c1, c2, c3, c4, c5, c6, c7, c8, c9, c10⟩ := HC.out.fr.cells
    go_wp2_with (first
      | (go_at_call_of 26 (Value.int IntKind.i64 1); refine (HC.out.num ⟨by omega, by omega⟩ cw1 (by omega)).mono ?_; rintro e w1 ⟨v1, rfl, h1, hg1, ha1⟩; clear c0 c1 c2 c3 c4 c5 c6 c7 c8 c9 c10; obtain ⟨c0, c1, c2, c3, c4, c5, c6, c7, c8, c9, c10⟩ := h1.fr.cells; have HN := Lib.hid h1; clear h1 hg1 ha1 HC; have HC := HN; clear HN)
      | (go_at_call_of 26 (Value.int IntKind.i64 11); refine (HC.out.num ⟨by omega, by omega⟩ cw11 (by omega)).mono ?_; rintro e w1 ⟨v1, rfl, h1, hg1, ha1⟩; clear c0 c1 c2 c3 c4 c5 c6 c7 c8 c9 c10; obtain ⟨c0, c1, c2, c3, c4, c5, c6, c7, c8, c9, c10⟩ := h1.fr.cells; have HN := Lib.hid h1; clear h1 hg1 ha1 HC; have HC := HN; clear HN)
      | (go_at_call_of 26 (Value.int IntKind.i64 2); refine (HC.out.num ⟨by omega, by omega⟩ cw2 (by omega)).mono ?_; rintro e w1 ⟨v1, rfl, h1, hg1, ha1⟩; clear c0 c1 c2 c3 c4 c5 c6 c7 c8 c9 c10; obtain ⟨c0, c1, c2, c3, c4, c5, c6, c7, c8, c9, c10⟩ := h1.fr.cells; have HN := Lib.hid h1; clear h1 hg1 ha1 HC; have HC := HN; clear HN)
      | (go_at_call_of 26 (Value.int IntKind.i64 4); refine (HC.out.num ⟨by omega, by omega⟩ cw4 (by omega)).mono ?_; rintro e w1 ⟨v1, rfl, h1, hg1, ha1⟩; clear c0 c1 c2 c3 c4 c5 c6 c7 c8 c9 c10; obtain ⟨c0, c1, c2, c3, c4, c5, c6, c7, c8, c9, c10⟩ := h1.fr.cells; have HN := Lib.hid h1; clear h1 hg1 ha1 HC; have HC := HN; clear HN)
      | (go_at_call 27; refine (HBY.out _).mono ?_; rintro e w2 ⟨A, z, rfl, hA, hB, hb⟩; have h2 := HC.out.step hb; have hsep : ∀ b off, A = some ⟨b, off, none⟩ → v1.ownBlock ≠ some b := fun b off e1 e2 => by have := hA b off e1; have := HC.out.own.lt _ e2; omega))
    have HC2 := Lib.hid h2
    have HB := Lib.hid hB
    have HSEP := Lib.hid hsep
    clear HC HBY hA hb h2 hB hsep c0 c1 c2 c3 c4 c5 c6 c7 c8 c9 c10
    have h0 : Cs i n false d w v1 (19 + 8 * 0) (headL i n false ++ bitsB (lb.take 0)) w2 := by
      have := HC2.out
      simpa [headL, bitsB] using this
    have H0 := Lib.hid h0
    clear h0 HC2
    go_loopw [26, 4] (fun x v wr => ∃ j : Nat, j ≤ m ∧ x = .int .i64 j ∧ Hid (Cs i n false d w v (19 + 8 * j) (headL i n false ++ bitsB (lb.take j)) wr) ∧ Hid (Byt wr wr.heap.size A m z lb) ∧ Hid (∀ b off, A = some ⟨b, off, none⟩ → v.ownBlock ≠ some b)) (fun x _ _ => m - (intOf x).toNat)
    case atStart => exact ⟨0, Nat.zero_le _, rfl, H0, HB, HSEP⟩
    case round =>
      obtain ⟨j, hj, rfl, HCj, HBj, HSj⟩ := hrel
      clear H0 HB HSEP
      by_cases hlt : j < m
      · obtain ⟨b, off, rfl, hb, hc⟩ := HBj.out.cells (by omega)
        have hcj := hc j hlt
        have hget := bits_step lb j (by rw [HML.out]; exact hlt)
        have hr := HBj.out.range j
        generalize lb.getD j 0 = q at hcj hget hr
        obtain ⟨hq0, hq1⟩ := hr
        have HGET := Lib.hid hget
        clear hc hget
        go_wp2_with (go_at_call_of 26 (Value.int IntKind.i64 8); refine (HCj.out.num ⟨hq0, by omega⟩ cw8 (by omega)).mono ?_; rintro e w3 ⟨v3, rfl, h3, hg3, ha3⟩)
        go_roundw
        case rel =>
          refine ⟨j + 1, by omega, by go_num, Lib.hid ?_, Lib.hid (HBj.out.grown hg3 HSj.out), Lib.hid ?_⟩
          · rw [HGET.out, ← List.append_assoc, show 19 + 8 * (j + 1) = 19 + 8 * j + 8 by omega]; exact h3
          · intro b' off' e1 e2
            rcases ha3 with h | ⟨g, h, hg⟩
            · rw [h] at e2; exact HSj.out b' off' e1 e2
            · rw [h] at e2; cases e2; cases e1; omega
        case measure => simp [intOf]; omega
      · obtain rfl : j = m := by omega
        have h4 := HCj.out
        rw [List.take_of_length_le (by rw [HML.out]; exact Nat.le_refl _), show headL i n false ++ bitsB lb = foreL i n false lb from rfl] at h4
        obtain ⟨A5, z5, rfl, hB5, _⟩ := Byt.of_own h4.own (bits_range (fore_bits _ _ _ _))
        have hcr := fun w h => crc15_any A5 (19 + 8 * j) z5 (foreL i n false lb) w h
        have hq15 := crc_le (foreL i n false lb)
        have hlen : (coreL i n false lb).length = 19 + 8 * j + 15 := by rw [core_len, HML.out]; omega
        obtain ⟨q, hq⟩ : ∃ q : Nat, remN 15 17817 0 (foreL i n false lb) = q := ⟨_, rfl⟩
        simp only [hq] at hcr hq15
        have hcore : coreL i n false lb = foreL i n false lb ++ ofL (q : Int) 15 := by unfold coreL; rw [hq]
        have HCO := Lib.hid hcore
        have HLE := Lib.hid hlen
        have HCR := Lib.hid hcr
        have H4 := Lib.hid h4
        have HB5 := Lib.hid hB5
        clear hcr h4 hB5 hcore hlen hq HCj HBj HSj
        go_wp2_with (first
          | (go_at_call 28; refine (HCR.out _ HB5.out).mono ?_; rintro e w5 ⟨rfl, hb5⟩; have h5 := H4.out.step hb5; clear hb5)
          | (go_at_call_of 26 (Value.int IntKind.i64 15); refine (h5.num ⟨by omega, hq15⟩ cw15 (by omega)).mono ?_; rintro e w6 ⟨v6, rfl, h6, hg6, ha6⟩))
        exact bodyPost_ret (results_tmp rfl _ _ _) rfl ⟨v6, rfl, by rw [HLE.out, HCO.out]; exact own_base h6.own (by omega), h6.bel⟩

end Go.Proofs.Ytkgnhmddnfmhjaa
