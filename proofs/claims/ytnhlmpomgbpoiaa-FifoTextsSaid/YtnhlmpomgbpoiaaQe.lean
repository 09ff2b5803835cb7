/- A slice of texts that came in. -/
import Derived.Test.YtnhlmpomgbpoiaaQd
import Derived.Test.YtnhlmpomgbpoiaaQcS
import Derived.SliceStrings
namespace Go.Proofs.Ytnhlmpomgbpoiaa
open Go.RowKit Go.ChangeShapes

/-- The slice '.slice A n c' of texts reads as ss, in a block below B. -/
structure Texts (w : World) (B : Nat) (A : Option Addr) (n c : Nat) (ss : List ByteArray) : Prop where
  len : ss.length = n
  cap : n ≤ c
  max : c ≤ maxLen
  sz : ∀ s ∈ ss, s.size ≤ maxLen
  cells : 0 < n → ∃ b off, A = some ⟨b, off, none⟩ ∧ b < B ∧ ∀ j, j < n → w.cell? ⟨b, off + j, none⟩ = some (.string (ss.getD j ByteArray.empty))
section
variable {w w' : World} {B B' n c : Nat} {A : Option Addr} {ss : List ByteArray}
theorem Texts.keep (h : Texts w B A n c ss) (hk : ∀ b o, b < B → w'.cell? ⟨b, o, none⟩ = w.cell? ⟨b, o, none⟩) : Texts w' B A n c ss :=
  ⟨h.len, h.cap, h.max, h.sz, fun hn => by
    obtain ⟨b, off, e, hb, hc⟩ := h.cells hn
    exact ⟨b, off, e, hb, fun j hj => (hk b _ hb).trans (hc j hj)⟩⟩
theorem Texts.below (h : Texts w B A n c ss) (hb : Below B w w') : Texts w' B A n c ss := h.keep fun b o hlt => hb.cell (p := ⟨b, o, none⟩) hlt
theorem Texts.take (h : Texts w B A n c ss) {k : Nat} (hk : k ≤ n) : Texts w B A k c (ss.take k) :=
  ⟨by rw [List.length_take, h.len]; omega, by have := h.cap; omega, h.max, fun x hx => h.sz x (List.mem_of_mem_take hx), fun h0 => by
    obtain ⟨b, off, e, hb, hc⟩ := h.cells (by omega)
    refine ⟨b, off, e, hb, fun j hj => ?_⟩
    rw [hc j (by omega)]
    simp [List.getD, hj]⟩
theorem strs_one (ss : List ByteArray) : ∀ u ∈ ss.map Value.string, u.oneCell' = true := by
  intro u hu
  obtain ⟨s, _, rfl⟩ := List.mem_map.1 hu
  rfl
theorem Src.of_texts {m : Nat} (h : Texts w B A n c ss) (hm : m ≤ n) : Src w A m ((ss.map Value.string).take m) := by
  have hl := h.len
  refine ⟨by simp; omega, fun u hu => strs_one ss u (List.mem_of_mem_take hu), fun h0 => ?_⟩
  obtain ⟨b, off, rfl, _, hc⟩ := h.cells (by omega)
  refine ⟨_, rfl, fun j u hu => ?_⟩
  have hj : j < m := by
    rcases Nat.lt_or_ge j m with h1 | h1
    · exact h1
    · rw [List.getElem?_eq_none (by simp; omega)] at hu; cases hu
  rw [add_plain', hc j (by omega)]
  rw [List.getElem?_take, if_pos hj, List.getElem?_map, List.getElem?_eq_getElem (by omega)] at hu
  simp only [Option.map_some, Option.some.injEq] at hu
  subst hu
  simp [List.getD, List.getElem?_eq_getElem (show j < ss.length by omega)]
end

theorem texts_of_trod {H : Type} {enc : TypeId × Value → H} {w : World} {fuel : Nat} {A : Option Addr} {n c : Nat} {x : DataW H × List MemPlace} (h : DataW.trod enc Try.prog w 0 (fun _ => true) true fuel 53 [.slice A n c] = some x) : ∃ ss, Texts w w.heap.size A n c ss := by
  rcases open_strings Try.underlying53 Try.underlying9 (by kernel_rfl) h with ⟨hcs, _⟩ | ⟨a, len, cap, ss, hcs, _, hl, hm, hz, _, hcell, hsz⟩
  · simp at hcs
    obtain ⟨rfl, rfl, rfl⟩ := hcs
    exact ⟨[], rfl, Nat.le_refl _, by simp [maxLen], by simp, fun h0 => absurd h0 (by omega)⟩
  · simp at hcs
    obtain ⟨rfl, rfl, rfl⟩ := hcs
    simp at hz
    refine ⟨ss.take n, by rw [List.length_take]; omega, hl, hm, fun s hs => hsz s (List.mem_of_mem_take hs), fun h0 => ?_⟩
    obtain ⟨b, off, spot⟩ := a
    have h1 := hcell 0 (by omega)
    have hspot : spot = none := by simpa [Addr.add] using World.cell?_spot h1
    subst hspot
    refine ⟨b, off, rfl, ?_, fun j hj => ?_⟩
    · have h2 := block_lt_of_cell h1
      simpa [Addr.add] using h2
    · have h3 := hcell j (by omega)
      rw [add_plain'] at h3
      rw [h3]
      simp [List.getD, hj]

theorem drop_strs {S : List ByteArray} {K j : Nat} (hK : K ≤ S.length) (hj : j < K) : ((S.map Value.string).take K).drop j = Value.string (S.getD j ByteArray.empty) :: ((S.map Value.string).take K).drop (j + 1) := by
  rw [List.drop_eq_getElem_cons (by simp; omega)]
  simp [List.getD, List.getElem?_eq_getElem (show j < S.length by omega)]

/-- Between two things that are taken. -/
def TxRel (w : World) (g K : Nat) (lost : Int) (S : List ByteArray) (i : Value) (wr : World) : Prop :=
  ∃ (j : Nat) (A : Option Addr) (c : Nat), j ≤ K ∧ i = .int .i64 j ∧ QueS wr (w.heap.size + 1) g 5 (((S.map Value.string).take K).drop j) lost A (K - j) c ∧ Below w.heap.size w wr

set_option maxHeartbeats 2000000 in
theorem fifoTexts_walk (A : Option Addr) (n c : Nat) (ss : List ByteArray) (w : World) (h0 : Texts w w.heap.size A n c ss) :
    Calls Try.prog 6 #[.slice A n c] w fun e w' => e = .returned (.bool true) ∧ Below w.heap.size w w' := by
  have hcap := h0.cap
  have hmax := h0.max
  simp only [maxLen] at hmax
  obtain ⟨N, K, hNK⟩ : ∃ N K : Nat, (N = n ∧ n ≤ 5 ∧ K = n) ∨ (N = n ∧ 5 < n ∧ n ≤ 12 ∧ K = 5) ∨ (N = 12 ∧ 12 < n ∧ K = 5) := by
    rcases Nat.lt_or_ge 12 n with h | h
    · exact ⟨12, 5, .inr (.inr ⟨rfl, h, rfl⟩)⟩
    · rcases Nat.lt_or_ge 5 n with h1 | h1
      · exact ⟨n, 5, .inr (.inl ⟨rfl, h1, h, rfl⟩)⟩
      · exact ⟨n, n, .inl ⟨rfl, h1, rfl⟩⟩
  have hle : N ≤ n ∧ N ≤ 12 := by omega
  have hKN : K ≤ N ∧ K ≤ 5 := by omega
  have hmin : (K : Int) = min (N : Int) (5 - (0 : Nat)) := by omega
  have h := h0.take hle.1
  generalize ss.take N = S at h
  clear h0
  have hlost : (0 : Int) ≤ (N : Int) - K := by omega
  have hSl := h.len
  have hkS : K ≤ S.length := by omega
  have HT := Lib.hid h
  have HM := Lib.hid hmin
  have HS := Lib.hid hSl
  clear h hSl hmin
  rcases hNK with ⟨rfl, h5, rfl⟩ | ⟨rfl, h5, h12, rfl⟩ | ⟨rfl, h12, rfl⟩
  · go_enter Try.func6, Try.ntmps6
    go_wp2_with fail
    refine (newS_any 5 w (by omega)).mono ?_
    rintro e w1 ⟨rfl, hq1, hw1⟩
    have hb1 : Below w.heap.size w w1 := by rw [hw1]; exact (Below.refl _ _).alloc (Nat.le_refl _) _
    have hs1 : w.heap.size + 1 ≤ w1.heap.size := by rw [hw1]; simp
    rw [show clampL 5 = 5 by decide] at hq1
    have hx1 := fun k (hk : k ≤ _) => Src.of_texts (HT.out.below hb1) (m := k) hk
    have HX := Lib.hid hx1
    clear hw1 hx1
    go_wp2_with fail
    refine (putS_any _ _ _ _ _ _ _ _ _ _ _ _ _ hq1 hs1 HX.out (by omega) (by simp only [maxLen]; omega) (by omega)).mono ?_
    rintro e w2 ⟨k, A2, c2, rfl, hk, hq2, ht2, ha2⟩
    have hkm := HM.out
    rw [← hkm] at hk
    have hk := (Int.ofNat.inj hk).symm
    subst hk
    have hb2 : Below w.heap.size w w2 := hb1.trans (ht2.below hb1.size (Nat.le_refl _) (fun b e => by simp [blk] at e))
    clear hq1 ht2 ha2 hkm
    rw [List.nil_append, Nat.zero_add, Int.zero_add] at hq2
    go_wp2_with (go_at_call 27; refine (lostS_any _ _ _ _ _ _ _ _ _ hq2).mono ?_; rintro e w3 ⟨rfl, rfl⟩)
    go_loopw [5] (TxRel w w.heap.size K ((K : Nat) - (K : Nat) : Int) S) (fun i _ => K - (intOf i).toNat)
    case atStart => exact ⟨0, A2, c2, Nat.zero_le _, rfl, hq2, hb2⟩
    case round =>
      obtain ⟨j, A3, c3, hj, rfl, hq3, hb3⟩ := hrel
      by_cases hlt : j < K
      · rw [drop_strs hkS hlt, show K - j = (K - (j + 1)) + 1 by omega] at hq3
        have htk := takeS_some _ _ _ _ _ _ _ _ _ _ hq3
        have hT := HT.out
        obtain ⟨b, off, rfl, hbb, hcl⟩ := hT.cells (by omega)
        have hcj := hcl j (by omega)
        generalize S.getD j ByteArray.empty = x at htk hcj
        have HTK := Lib.hid htk
        have HQ3 := Lib.hid hq3
        clear htk hT hcl hq2 hq3
        go_wp2_with fail
        refine HTK.out.mono ?_
        rintro e w4 ⟨rfl, A4, c4, hq4, ht4, ha4⟩
        have hA3 : ∀ b', blk A3 = some b' → w.heap.size ≤ b' := fun b' e => by have := (HQ3.out.row.lt e).1; omega
        have hb4 : Below w.heap.size w w4 := hb3.trans (ht4.below hb3.size (Nat.le_refl _) hA3)
        have hcj4 : w4.cell? ⟨b, off + j, none⟩ = some (.string x) := (hb4.cell (p := ⟨b, off + j, none⟩) hbb).trans hcj
        have HQ4 := Lib.hid hq4
        clear hq4 ht4 ha4 hA3 hcj
        go_wp2_with fail
        go_roundw
        case rel => exact ⟨j + 1, A4, c4, by omega, by go_num, HQ4.out, hb4⟩
        case measure => simp [intOf]; omega
      · obtain rfl : j = K := by omega
        rw [List.drop_eq_nil_of_le (by simp; omega), Nat.sub_self] at hq3
        have htk := takeS_none _ _ _ _ _ _ _ hq3
        have HTK := Lib.hid htk
        have HL := Lib.hid (live7_any w)
        clear htk hq2 hq3
        go_wp2_with fail
        refine HTK.out.mono ?_
        rintro e w4 ⟨rfl, rfl⟩
        go_wp2_with fail
        refine (live7_any _).mono ?_
        rintro e w5 ⟨rfl, hb5⟩
        go_wp2_with fail
        go_ret
        exact ⟨rfl, hb3.trans (hb5.mono hb3.size)⟩
  · go_enter Try.func6, Try.ntmps6
    go_wp2_with fail
    refine (newS_any 5 w (by omega)).mono ?_
    rintro e w1 ⟨rfl, hq1, hw1⟩
    have hb1 : Below w.heap.size w w1 := by rw [hw1]; exact (Below.refl _ _).alloc (Nat.le_refl _) _
    have hs1 : w.heap.size + 1 ≤ w1.heap.size := by rw [hw1]; simp
    rw [show clampL 5 = 5 by decide] at hq1
    have hx1 := fun k (hk : k ≤ _) => Src.of_texts (HT.out.below hb1) (m := k) hk
    have HX := Lib.hid hx1
    clear hw1 hx1
    go_wp2_with fail
    refine (putS_any _ _ _ _ _ _ _ _ _ _ _ _ _ hq1 hs1 HX.out (by omega) (by simp only [maxLen]; omega) (by omega)).mono ?_
    rintro e w2 ⟨k, A2, c2, rfl, hk, hq2, ht2, ha2⟩
    have hkm := HM.out
    rw [← hkm] at hk
    have hk := (Int.ofNat.inj hk).symm
    subst hk
    have hb2 : Below w.heap.size w w2 := hb1.trans (ht2.below hb1.size (Nat.le_refl _) (fun b e => by simp [blk] at e))
    clear hq1 ht2 ha2 hkm
    rw [List.nil_append, Nat.zero_add, Int.zero_add] at hq2
    go_wp2_with (go_at_call 27; refine (lostS_any _ _ _ _ _ _ _ _ _ hq2).mono ?_; rintro e w3 ⟨rfl, rfl⟩)
    go_loopw [5] (TxRel w w.heap.size 5 ((N : Nat) - (5 : Nat) : Int) S) (fun i _ => 5 - (intOf i).toNat)
    case atStart => exact ⟨0, A2, c2, Nat.zero_le _, rfl, hq2, hb2⟩
    case round =>
      obtain ⟨j, A3, c3, hj, rfl, hq3, hb3⟩ := hrel
      by_cases hlt : j < 5
      · rw [drop_strs hkS hlt, show 5 - j = (5 - (j + 1)) + 1 by omega] at hq3
        have htk := takeS_some _ _ _ _ _ _ _ _ _ _ hq3
        have hT := HT.out
        obtain ⟨b, off, rfl, hbb, hcl⟩ := hT.cells (by omega)
        have hcj := hcl j (by omega)
        generalize S.getD j ByteArray.empty = x at htk hcj
        have HTK := Lib.hid htk
        have HQ3 := Lib.hid hq3
        clear htk hT hcl hq2 hq3
        go_wp2_with fail
        refine HTK.out.mono ?_
        rintro e w4 ⟨rfl, A4, c4, hq4, ht4, ha4⟩
        have hA3 : ∀ b', blk A3 = some b' → w.heap.size ≤ b' := fun b' e => by have := (HQ3.out.row.lt e).1; omega
        have hb4 : Below w.heap.size w w4 := hb3.trans (ht4.below hb3.size (Nat.le_refl _) hA3)
        have hcj4 : w4.cell? ⟨b, off + j, none⟩ = some (.string x) := (hb4.cell (p := ⟨b, off + j, none⟩) hbb).trans hcj
        have HQ4 := Lib.hid hq4
        clear hq4 ht4 ha4 hA3 hcj
        go_wp2_with fail
        go_roundw
        case rel => exact ⟨j + 1, A4, c4, by omega, by go_num, HQ4.out, hb4⟩
        case measure => simp [intOf]; omega
      · obtain rfl : j = 5 := by omega
        rw [List.drop_eq_nil_of_le (by simp; omega), Nat.sub_self] at hq3
        have htk := takeS_none _ _ _ _ _ _ _ hq3
        have HTK := Lib.hid htk
        have HL := Lib.hid (live7_any w)
        clear htk hq2 hq3
        go_wp2_with fail
        refine HTK.out.mono ?_
        rintro e w4 ⟨rfl, rfl⟩
        go_wp2_with fail
        refine (live7_any _).mono ?_
        rintro e w5 ⟨rfl, hb5⟩
        go_wp2_with fail
        go_ret
        exact ⟨rfl, hb3.trans (hb5.mono hb3.size)⟩
  · go_enter Try.func6, Try.ntmps6
    go_wp2_with fail
    refine (newS_any 5 w (by omega)).mono ?_
    rintro e w1 ⟨rfl, hq1, hw1⟩
    have hb1 : Below w.heap.size w w1 := by rw [hw1]; exact (Below.refl _ _).alloc (Nat.le_refl _) _
    have hs1 : w.heap.size + 1 ≤ w1.heap.size := by rw [hw1]; simp
    rw [show clampL 5 = 5 by decide] at hq1
    have hx1 := fun k (hk : k ≤ _) => Src.of_texts (HT.out.below hb1) (m := k) hk
    have HX := Lib.hid hx1
    clear hw1 hx1
    go_wp2_with fail
    refine (putS_any _ _ _ _ _ _ _ _ _ _ _ _ _ hq1 hs1 HX.out (by omega) (by simp only [maxLen]; omega) (by omega)).mono ?_
    rintro e w2 ⟨k, A2, c2, rfl, hk, hq2, ht2, ha2⟩
    have hkm := HM.out
    rw [← hkm] at hk
    have hk := (Int.ofNat.inj hk).symm
    subst hk
    have hb2 : Below w.heap.size w w2 := hb1.trans (ht2.below hb1.size (Nat.le_refl _) (fun b e => by simp [blk] at e))
    clear hq1 ht2 ha2 hkm
    rw [List.nil_append, Nat.zero_add, Int.zero_add] at hq2
    go_wp2_with (go_at_call 27; refine (lostS_any _ _ _ _ _ _ _ _ _ hq2).mono ?_; rintro e w3 ⟨rfl, rfl⟩)
    go_loopw [5] (TxRel w w.heap.size 5 ((12 : Nat) - (5 : Nat) : Int) S) (fun i _ => 5 - (intOf i).toNat)
    case atStart => exact ⟨0, A2, c2, Nat.zero_le _, rfl, hq2, hb2⟩
    case round =>
      obtain ⟨j, A3, c3, hj, rfl, hq3, hb3⟩ := hrel
      by_cases hlt : j < 5
      · rw [drop_strs hkS hlt, show 5 - j = (5 - (j + 1)) + 1 by omega] at hq3
        have htk := takeS_some _ _ _ _ _ _ _ _ _ _ hq3
        have hT := HT.out
        obtain ⟨b, off, rfl, hbb, hcl⟩ := hT.cells (by omega)
        have hcj := hcl j (by omega)
        generalize S.getD j ByteArray.empty = x at htk hcj
        have HTK := Lib.hid htk
        have HQ3 := Lib.hid hq3
        clear htk hT hcl hq2 hq3
        go_wp2_with fail
        refine HTK.out.mono ?_
        rintro e w4 ⟨rfl, A4, c4, hq4, ht4, ha4⟩
        have hA3 : ∀ b', blk A3 = some b' → w.heap.size ≤ b' := fun b' e => by have := (HQ3.out.row.lt e).1; omega
        have hb4 : Below w.heap.size w w4 := hb3.trans (ht4.below hb3.size (Nat.le_refl _) hA3)
        have hcj4 : w4.cell? ⟨b, off + j, none⟩ = some (.string x) := (hb4.cell (p := ⟨b, off + j, none⟩) hbb).trans hcj
        have HQ4 := Lib.hid hq4
        clear hq4 ht4 ha4 hA3 hcj
        go_wp2_with fail
        go_roundw
        case rel => exact ⟨j + 1, A4, c4, by omega, by go_num, HQ4.out, hb4⟩
        case measure => simp [intOf]; omega
      · obtain rfl : j = 5 := by omega
        rw [List.drop_eq_nil_of_le (by simp; omega), Nat.sub_self] at hq3
        have htk := takeS_none _ _ _ _ _ _ _ hq3
        have HTK := Lib.hid htk
        have HL := Lib.hid (live7_any w)
        clear htk hq2 hq3
        go_wp2_with fail
        refine HTK.out.mono ?_
        rintro e w4 ⟨rfl, rfl⟩
        go_wp2_with fail
        refine (live7_any _).mono ?_
        rintro e w5 ⟨rfl, hb5⟩
        go_wp2_with fail
        go_ret
        exact ⟨rfl, hb3.trans (hb5.mono hb3.size)⟩
end Go.Proofs.Ytnhlmpomgbpoiaa
