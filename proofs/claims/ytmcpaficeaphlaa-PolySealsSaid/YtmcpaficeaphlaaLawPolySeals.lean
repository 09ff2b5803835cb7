/- The statement PolySeals: a sealed row is divided without a rest; one in which bits are turned within as many places as the divisor is wide is not, if that is odd: every width, powers, row, place, and bits that are turned from there on. No conditions. -/
import Derived.Test.YtmcpaficeaphlaaPolyG
import Derived.Test.YtmcpaficeaphlaaRows
import Derived.Lib.SmallJoins
import Derived.ChangeOld
import Derived.ShutString
namespace Go.Proofs.Ytmcpaficeaphlaa.polySeals
open Go.ChangeShapes Go.WideShapes Go.ChangeAt Go.RowKit
set_option linter.unusedVariables false

theorem start (W : Int) (L : Nat) (w : World) : Below w.heap.size w (w.alloc (Obj.cells #[Value.int IntKind.i64 W, Value.int IntKind.u32 ↑L] 26)) ∧ (w.alloc (Obj.cells #[Value.int IntKind.i64 W, Value.int IntKind.u32 ↑L] 26)).cell? ⟨w.heap.size, 0, none⟩ = some (.int .i64 W) ∧ (w.alloc (Obj.cells #[Value.int IntKind.i64 W, Value.int IntKind.u32 ↑L] 26)).cell? ⟨w.heap.size, 1, none⟩ = some (.int .u32 L) ∧ (w.alloc (Obj.cells #[Value.int IntKind.i64 W, Value.int IntKind.u32 ↑L] 26)).heap.size = w.heap.size + 1 :=
  ⟨(Below.refl _ _).alloc (Nat.le_refl _) _, by rw [cell_of_row _ _ _ _ _ _ (heap_alloc_new w _)]; rfl, by rw [cell_of_row _ _ _ _ _ _ (heap_alloc_new w _)]; rfl, by simp⟩

theorem none_ (W : Int) (L a t : Nat) (A : Option Addr) (n c : Nat) (l : List Int) (w : World) (hW : -9223372036854775808 ≤ W ∧ W ≤ 9223372036854775807) (hok : ¬ okV W L = true) (h : Byt w w.heap.size A n c l) :
    Calls Try.prog 6 #[.int .i64 W, .int .u32 L, .slice A n c, .int .u8 a, .int .u32 t] w fun e w' => e = .returned (.bool true) ∧ Below w.heap.size w w' := by
  have hs := fun w => seal_no W L A n c w (okV_false hok)
  have hm := fun w => rmay_any W L w hW
  rw [show okV W L = false by simpa using hok] at hm
  have HS := Lib.hid hs
  have HM := Lib.hid hm
  obtain ⟨hb0, hc0, hc1, hlt⟩ := start W L w
  have HB := Lib.hid hb0
  clear hs hm hok hb0 hc0 hc1 hlt h
  go_enter Try.func6, Try.ntmps6
  go_wp2_with fail
  generalize (w.alloc (Obj.cells #[Value.int IntKind.i64 W, Value.int IntKind.u32 ↑L] 26)) = w0 at HB
  refine (HS.out _).mono ?_
  rintro e w1 ⟨rfl, hb1⟩
  have hs1 := HB.out.trans (hb1.mono HB.out.size)
  go_wp2_with fail
  refine (HM.out _).mono ?_
  rintro e w2 ⟨rfl, rfl⟩
  go_wp2_with fail
  refine (live3_any _).mono ?_
  rintro e w3 ⟨rfl, hb3⟩
  go_wp2
  go_ret
  exact ⟨rfl, hs1.trans (hb3.mono hs1.size)⟩

theorem flip_same (l : List Int) (a t k : Nat) (h : t.testBit k = false) : flipL l a t (k + 1) = flipL l a t k := by
  unfold flipL
  refine List.map_congr_left fun j _ => ?_
  by_cases e : j = a + k
  · subst e
    rw [if_neg (by rw [show a + k - a = k by omega, h]; simp), if_neg (by omega)]
  · by_cases h1 : a ≤ j ∧ j < a + k ∧ t.testBit (j - a) = true
    · rw [if_pos h1, if_pos ⟨h1.1, by omega, h1.2.2⟩]
    · rw [if_neg h1, if_neg (fun e2 => h1 ⟨e2.1, by omega, e2.2.2⟩)]
theorem flip_step (l : List Int) (a t k : Nat) (h : t.testBit k = true) (hl : a + k < l.length) : flipL l a t (k + 1) = (flipL l a t k).set (a + k) (1 - l.getD (a + k) 0) := by
  apply List.ext_getElem
  · simp [flipL_len]
  · intro j h1 h2
    rw [flipL_len] at h1
    have e1 := flipL_getD l a t (k + 1) h1
    have e2 := flipL_getD l a t k h1
    simp only [List.getD, List.getElem?_eq_getElem (show j < (flipL l a t (k + 1)).length by rw [flipL_len]; exact h1), Option.getD_some] at e1
    simp only [List.getD, List.getElem?_eq_getElem (show j < (flipL l a t k).length by rw [flipL_len]; exact h1), Option.getD_some] at e2
    rw [e1, List.getElem_set]
    by_cases e : a + k = j
    · subst e
      rw [if_pos ⟨by omega, by omega, by rw [show a + k - a = k by omega]; exact h⟩, if_pos rfl]
      rfl
    · rw [if_neg e, e2]
      by_cases h3 : a ≤ j ∧ j < a + k ∧ t.testBit (j - a) = true
      · rw [if_pos h3, if_pos ⟨h3.1, by omega, h3.2.2⟩]
      · rw [if_neg h3, if_neg (fun e3 => h3 ⟨e3.1, by omega, e3.2.2⟩)]
theorem flip_here (l : List Int) (a t k : Nat) (hl : a + k < l.length) : (flipL l a t k).getD (a + k) 0 = l.getD (a + k) 0 := by
  rw [flipL_getD l a t k hl, if_neg (by omega)]
theorem flip_bits (l : List Int) (hb : ∀ x ∈ l, x = 0 ∨ x = 1) (a t k : Nat) : ∀ x ∈ flipL l a t k, 0 ≤ x ∧ x ≤ 255 := by
  intro x hx
  simp only [flipL, List.mem_map, List.mem_range] at hx
  obtain ⟨j, hj, rfl⟩ := hx
  have : l.getD j 0 = 0 ∨ l.getD j 0 = 1 := by
    have e : l.getD j 0 = l[j] := by simp [List.getD, hj]
    rw [e]; exact hb _ (List.getElem_mem hj)
  split <;> omega
theorem sealL_bits (W L : Nat) (l : List Int) : ∀ x ∈ sealL W L l, x = 0 ∨ x = 1 := by
  intro x hx
  unfold sealL at hx
  rw [List.mem_append] at hx
  rcases hx with hx | hx
  · exact pl_bits l x hx
  · exact ofL_bits _ _ x hx
theorem b2_pl (x : Int) : b2 (x % 2) = b2 x := by unfold b2; omega
theorem whole_pl (W L : Nat) (l : List Int) : remN W L 0 (pl l) = remN W L 0 l := by
  refine snoc_ind (P := fun l => remN W L 0 (pl l) = remN W L 0 l) rfl (fun l x ih => ?_) l
  have e : pl (l ++ [x]) = pl l ++ [x % 2] := by simp [pl]
  rw [e, rem_snoc, rem_snoc, ih, b2_pl]
theorem seal_whole (W L : Nat) (hW : 1 ≤ W) (hL : L < 2 ^ W) (l : List Int) : wholeN W L (sealL W L l) = 0 :=
  whole_sealed hW hL (pl l) _ (by unfold sealL; rw [whole_pl, ofL_bt])
theorem bit_test (t j : Nat) : (t : Int) / 2 ^ j % 2 = if t.testBit j then 1 else 0 := bt_eq t j

set_option maxHeartbeats 1000000 in
theorem some_ (V L a t : Nat) (A : Option Addr) (n c : Nat) (l : List Int) (w : World) (hV1 : 1 ≤ V) (hV2 : V ≤ 31) (hL : L < 2 ^ V) (ha : a ≤ 255) (ht : t < 4294967296) (h : Byt w w.heap.size A n c l) (hn : n ≤ 140737488351232) :
    Calls Try.prog 6 #[.int .i64 V, .int .u32 L, .slice A n c, .int .u8 a, .int .u32 t] w fun e w' => e = .returned (.bool true) ∧ Below w.heap.size w w' := by
  have hp := pow32 hV2
  have hok : okV (V : Int) L = true := decide_eq_true ⟨by omega, by omega, by rw [Int.toNat_natCast]; exact hL⟩
  have hs := fun (w : World) (h : Byt w w.heap.size A n c l) => seal_yes V L A n c l w hV1 hV2 hL h hn
  have hm := fun w => rmay_any V L w (by omega)
  rw [hok] at hm
  have hbits := sealL_bits V L l
  have hz := seal_whole V L hV1 hL l
  have hSl : (sealL V L l).length = n + V := by unfold sealL; rw [List.length_append, pl_len, ofL_len, h.len]
  generalize sealL V L l = S at hs hbits hz hSl
  have hwS : wholeV V L S = 0 := by unfold wholeV; rw [if_pos hok, Int.toNat_natCast]; exact hz
  have hwh := fun (w : World) (X : Option Addr) (c : Nat) (h : Byt w w.heap.size X (n + V) c S) => whole_any V L X (n + V) c S w h
  rw [hwS] at hwh
  have hodd : L % 2 = 1 → ∀ k, k ≤ V → (a + k ≤ n + V ∨ k = 0) → (wholeV V L (flipL S a t k) = 0 ↔ anyB t k = false) := fun ho k hk hak => by
    unfold wholeV
    rw [if_pos hok, Int.toNat_natCast]
    exact flip_whole hV1 ho hL S hbits hz a t k hk (by rw [hSl]; exact hak)
  have hfl := fun (w : World) (X : Option Addr) (c k : Nat) (h : Byt w w.heap.size X (n + V) c (flipL S a t k)) => whole_any V L X (n + V) c (flipL S a t k) w h
  obtain ⟨hb0, hc0, hc1, hlt⟩ := start V L w
  have HB := Lib.hid hb0
  have HLT := Lib.hid hlt
  have HC0 := Lib.hid hc0
  have HC1 := Lib.hid hc1
  have HS := Lib.hid hs
  have HM := Lib.hid hm
  have HW := Lib.hid hwh
  have HF := Lib.hid hfl
  have HODD := Lib.hid hodd
  have HBITS := Lib.hid hbits
  have HSL := Lib.hid hSl
  have HH := Lib.hid h
  have t1 : IntKind.i64.wrap (((n + V : Nat) : Int) - (n : Int)) = (V : Int) := by rw [IntWalk.i64_in _ (by omega)]; omega
  clear hs hm hwh hfl hodd hbits hSl hz hwS hok hb0 hlt hc0 hc1 h hL
  go_enter Try.func6, Try.ntmps6
  go_wp2_with fail
  generalize (w.alloc (Obj.cells #[Value.int IntKind.i64 ↑V, Value.int IntKind.u32 ↑L] 26)) = w0 at HB HC0 HC1 HLT
  refine (HS.out _ (HH.out.step HB.out)).mono ?_
  rintro e w1 ⟨AS, cS, rfl, hBS, hb1⟩
  have hs1 := HB.out.trans (hb1.mono HB.out.size)
  have hlt0 : w.heap.size < w0.heap.size := by rw [HLT.out]; exact Nat.lt_succ_self _
  have hc0 : w1.cell? ⟨w.heap.size, 0, none⟩ = some (.int .i64 V) := (hb1.cell (p := ⟨w.heap.size, 0, none⟩) hlt0).trans HC0.out
  have hc1 : w1.cell? ⟨w.heap.size, 1, none⟩ = some (.int .u32 L) := (hb1.cell (p := ⟨w.heap.size, 1, none⟩) hlt0).trans HC1.out
  have hl1 := Nat.lt_of_lt_of_le hlt0 hb1.size
  have HBS := Lib.hid hBS
  clear hBS hlt0
  go_wp2_with fail
  refine (HM.out _).mono ?_
  rintro e w2 ⟨rfl, rfl⟩
  go_wp2_with fail
  refine (HW.out _ _ _ HBS.out).mono ?_
  rintro e w2 ⟨rfl, hb2⟩
  have hs2 := hs1.trans (hb2.mono hs1.size)
  have hc0' : w2.cell? ⟨w.heap.size, 0, none⟩ = some (.int .i64 V) := (hb2.cell (p := ⟨w.heap.size, 0, none⟩) hl1).trans hc0
  have hc1' : w2.cell? ⟨w.heap.size, 1, none⟩ = some (.int .u32 L) := (hb2.cell (p := ⟨w.heap.size, 1, none⟩) hl1).trans hc1
  have hl2 := Nat.lt_of_lt_of_le hl1 hb2.size
  have hBS2 := HBS.out.step hb2
  have HBS2 := Lib.hid hBS2
  clear hc0 hc1 hBS2 t1
  go_wp2_with (at_builtin; refine wpList_bytes rfl (.tmp 45) (.tmp 46) rfl Try.underlying23 byte_info rfl (l := []) (World.ownsRow_lit w2 #[] 0 (Nat.le_refl _) (by simp [maxLen]) rfl) rfl (HBS2.out.keep (B := w2.heap.size) (fun b o hlt => ((Below.refl w2.heap.size w2).alloc (Nat.le_refl _) _).cell (p := ⟨b, o, none⟩) hlt)) (by omega) (by simp) ?_; intro v1 w3 hown1 hbel1)
  have hb3 : Below w2.heap.size w2 w3 := ((Below.refl _ _).alloc (Nat.le_refl _) _).trans hbel1
  rw [List.nil_append, Nat.zero_add] at hown1
  obtain ⟨g, cap, rfl⟩ := Go.Joins.ownsRow_form hown1 (by omega)
  have hgb := (hown1.lt g (by simp [Value.ownBlock])).1
  have hcapx : n + V ≤ cap := by
    rcases hown1.2 with ⟨h', _⟩ | ⟨g', cap', cur, h', _, _, hnc, _⟩
    · simp at h'
    · simp only [Value.slice.injEq, Option.some.injEq, Addr.mk.injEq, and_true, true_and] at h'
      obtain ⟨rfl, rfl⟩ := h'
      exact hnc
  have hcapm : cap ≤ 9223372036854775807 := by
    rcases hown1.2 with ⟨h', _⟩ | ⟨g', cap', cur, h', _, _, hnc, hm, _⟩
    · simp at h'
    · simp only [Value.slice.injEq, Option.some.injEq, Addr.mk.injEq, and_true, true_and] at h'
      obtain ⟨rfl, rfl⟩ := h'
      simp only [maxLen] at hm; omega
  have hown0 : w3.ownsRow w2.heap.size 5 1 (.slice (some ⟨g, 0, none⟩) (n + V) cap) (n + V) ((flipL S a t 0).map (Value.int .u8)) := by rw [flipL_zero]; exact hown1
  obtain ⟨M, hM⟩ : ∃ M, M = min V (n + V - a) := ⟨_, rfl⟩
  have hMV : M ≤ V := by omega
  have hMa : a + M ≤ n + V ∨ M = 0 := by omega
  have hMx : ∀ j : Nat, j ≤ M → ((j : Int) < (V : Int) ∧ (j : Int) < (n : Int) + (V : Int) - (a : Int) ↔ j < M) := fun j hj => by omega
  have HMX := Lib.hid hMx
  have HMA := Lib.hid hMa
  clear hown1 hbel1 hM hMx hMa
  go_wp2_with fail
  go_loopw [15, 14] (fun i v wr => ∃ j : Nat, j ≤ M ∧ i = .int .i64 j ∧ v = .bool (anyB t j) ∧ wr.ownsRow w2.heap.size 5 1 (.slice (some ⟨g, 0, none⟩) (n + V) cap) (n + V) ((flipL S a t j).map (Value.int .u8)) ∧ Below w2.heap.size w2 wr) (fun i _ _ => M - (intOf i).toNat)
  case atStart => exact ⟨0, Nat.zero_le _, rfl, rfl, hown0, hb3⟩
  case round =>
    obtain ⟨j, hj, rfl, rfl, hown, hbel⟩ := hrel
    by_cases hlt : j < M
    · have hcond := (HMX.out j hj).2 hlt
      have hd1 : decide ((j : Int) < (V : Int)) = true := by simp; omega
      have hd2 : decide ((j : Int) < (n : Int) + (V : Int) - (a : Int)) = true := by simp; omega
      have hax : a + j < n + V := by rcases HMA.out with h | h <;> omega
      have hbt := bit_test t j
      have hany := anyB_succ t j
      have hdiv0 : 0 ≤ (t : Int) / 2 ^ j := Int.ediv_nonneg (by omega) (Int.le_of_lt (Int.pow_pos (by omega)))
      have hdiv1 : (t : Int) / 2 ^ j ≤ 4294967295 := Int.le_trans (Int.ediv_le_self _ (by omega)) (by omega)
      have HANY := Lib.hid hany
      by_cases hb : t.testBit j
      · rw [if_pos hb] at hbt
        have hstep := flip_step S a t j hb (by rw [HSL.out]; exact hax)
        have hcell := World.ownsRow.cellAt hown (a + j) (by omega)
        have hfr := World.ownsRow.frozenAt hown (a + j)
        have hval : ((flipL S a t j).map (Value.int .u8))[a + j]? = some (.int .u8 (S.getD (a + j) 0)) := by
          rw [List.getElem?_map, List.getElem?_eq_getElem (by rw [flipL_len, HSL.out]; exact hax)]
          have := flip_here S a t j (by rw [HSL.out]; exact hax)
          simp only [List.getD, List.getElem?_eq_getElem (show a + j < (flipL S a t j).length by rw [flipL_len, HSL.out]; exact hax), Option.getD_some] at this
          simp only [Option.map_some, this, List.getD]
        rw [hval] at hcell
        have hqb : S.getD (a + j) 0 = 0 ∨ S.getD (a + j) 0 = 1 := by
          have e : S.getD (a + j) 0 = S[a + j]'(by rw [HSL.out]; exact hax) := by simp [List.getD, show a + j < S.length by rw [HSL.out]; exact hax]
          rw [e]; exact HBITS.out _ (List.getElem_mem _)
        have hst := World.ownsRow.stored hown (a + j) (.int .u8 (1 - S.getD (a + j) 0))
        generalize S.getD (a + j) 0 = q at hcell hqb hst hstep
        have hq0 : 0 ≤ q := by omega
        have hq1 : q ≤ 1 := by omega
        have hget : ((flipL S a t j).map (Value.int .u8)).set (a + j) (.int .u8 (1 - q)) = (flipL S a t (j + 1)).map (Value.int .u8) := by rw [hstep, List.map_set]
        rw [hget] at hst
        have HST := Lib.hid hst
        have HB1 := Lib.hid hb
        have hbt2 : ((t : Int) / 2 ^ j % 2 == 1) = true := by rw [hbt]; rfl
        have hmin : min j 32 = j := by omega
        clear hst hget hstep hval hqb hown hbt hany hcond hb hown0
        go_wp2
        go_roundw
        case rel => exact ⟨j + 1, by omega, by go_num, by rw [HANY.out, HB1.out, Bool.or_true], HST.out.1, hbel.setCell hgb _⟩
        case measure => simp [intOf]; omega
      · rw [if_neg hb] at hbt
        have hbt2 : ((t : Int) / 2 ^ j % 2 == 1) = false := by rw [hbt]; rfl
        have hsame := flip_same S a t j (by simpa using hb)
        have HSAME := Lib.hid hsame
        have HB1 := Lib.hid hb
        have hmin : min j 32 = j := by omega
        clear hsame hbt hany hcond hb hown0
        go_wp2
        go_roundw
        case rel => exact ⟨j + 1, by omega, by go_num, by rw [HANY.out, show t.testBit j = false by simpa using HB1.out, Bool.or_false], by rw [HSAME.out]; exact hown, hbel⟩
        case measure => simp [intOf]; omega
    · obtain hjM : j = M := by omega
      have hcond := fun h => hlt ((HMX.out j hj).1 h)
      have hs3 := hs2.trans (hbel.mono hs2.size)
      have k0 : wr.cell? ⟨w.heap.size, 0, none⟩ = some (.int .i64 V) := (hbel.cell (p := ⟨w.heap.size, 0, none⟩) hl2).trans hc0'
      have k1 : wr.cell? ⟨w.heap.size, 1, none⟩ = some (.int .u32 L) := (hbel.cell (p := ⟨w.heap.size, 1, none⟩) hl2).trans hc1'
      have hl3 := Nat.lt_of_lt_of_le hl2 hbel.size
      have hXB : Byt wr wr.heap.size (some ⟨g, 0, none⟩) (n + V) cap (flipL S a t j) := by
        obtain ⟨A', c', hv, hB, _⟩ := Byt.of_own hown (flip_bits S HBITS.out a t j)
        cases hv
        exact hB
      have HXB := Lib.hid hXB
      have hw := HF.out
      have hval : L % 2 = 1 → (wholeV V L (flipL S a t j) = 0 ↔ anyB t j = false) := fun ho => HODD.out ho j (by omega) (by rw [hjM]; exact HMA.out)
      have hqlt := wholeV_lt V L (flipL S a t j)
      have hf := fun (w : World) (h : Byt w w.heap.size (some ⟨g, 0, none⟩) (n + V) cap (flipL S a t j)) => hw w _ cap j h
      generalize wholeV V L (flipL S a t j) = q at hval hqlt hf
      generalize anyB t j = bo at hval
      have HFF := Lib.hid hf
      have hcase : (j : Int) < (V : Int) ∨ ¬ (j : Int) < (V : Int) := by omega
      have HV := Lib.hid hval
      clear hw hf hown hown0 hXB hval hbel hlt
      rcases hcase with hcj | hcj
      · have hd1 : decide ((j : Int) < (V : Int)) = true := by simp; omega
        have hge : (n : Int) + (V : Int) - (a : Int) ≤ (j : Int) := Int.not_lt.1 (fun h => hcond ⟨hcj, h⟩)
        clear hcond
        have hlp : (L : Int) % 2 = ((L % 2 : Nat) : Int) := by omega
        by_cases ho : L % 2 = 0
        · have hL2 : ((L : Int) % 2 == 0) = true := by rw [hlp, ho]; rfl
          have HO := Lib.hid ho
          clear hlp ho
          go_wp2_with fail
          refine (live3_any _).mono ?_
          rintro e w4 ⟨rfl, hb4⟩
          go_wp2
          go_ret
          exact ⟨rfl, hs3.trans (hb4.mono hs3.size)⟩
        · have hL2 : ((L : Int) % 2 == 0) = false := by rw [hlp, show L % 2 = 1 by omega]; rfl
          have hv := HV.out (by omega)
          have HO := Lib.hid ho
          cases bo with
          | false =>
            have hq : q = 0 := hv.2 rfl
            subst hq
            clear hlp ho hv
            go_wp2_with fail
            refine (live3_any _).mono ?_
            rintro e w4 ⟨rfl, hb4⟩
            have k0' : w4.cell? ⟨w.heap.size, 0, none⟩ = some (.int .i64 V) := (hb4.cell (p := ⟨w.heap.size, 0, none⟩) hl3).trans k0
            have k1' : w4.cell? ⟨w.heap.size, 1, none⟩ = some (.int .u32 L) := (hb4.cell (p := ⟨w.heap.size, 1, none⟩) hl3).trans k1
            have hs4 := hs3.trans (hb4.mono hs3.size)
            clear k0 k1
            go_wp2_with fail
            refine (HFF.out _ (HXB.out.step hb4)).mono ?_
            rintro e w5 ⟨rfl, hb5⟩
            go_wp2
            go_ret
            exact ⟨rfl, hs4.trans (hb5.mono hs4.size)⟩
          | true =>
            have hq : ((q : Int) == 0) = false := by
              have : ¬ q = 0 := fun e => by have := hv.1 e; cases this
              simp; omega
            clear hlp ho hv
            go_wp2_with fail
            refine (live3_any _).mono ?_
            rintro e w4 ⟨rfl, hb4⟩
            have k0' : w4.cell? ⟨w.heap.size, 0, none⟩ = some (.int .i64 V) := (hb4.cell (p := ⟨w.heap.size, 0, none⟩) hl3).trans k0
            have k1' : w4.cell? ⟨w.heap.size, 1, none⟩ = some (.int .u32 L) := (hb4.cell (p := ⟨w.heap.size, 1, none⟩) hl3).trans k1
            have hs4 := hs3.trans (hb4.mono hs3.size)
            clear k0 k1
            go_wp2_with fail
            refine (HFF.out _ (HXB.out.step hb4)).mono ?_
            rintro e w5 ⟨rfl, hb5⟩
            go_wp2
            go_ret
            exact ⟨rfl, hs4.trans (hb5.mono hs4.size)⟩
      · have hd1 : decide ((j : Int) < (V : Int)) = false := decide_eq_false hcj
        clear hcond
        have hlp : (L : Int) % 2 = ((L % 2 : Nat) : Int) := by omega
        by_cases ho : L % 2 = 0
        · have hL2 : ((L : Int) % 2 == 0) = true := by rw [hlp, ho]; rfl
          have HO := Lib.hid ho
          clear hlp ho
          go_wp2_with fail
          refine (live3_any _).mono ?_
          rintro e w4 ⟨rfl, hb4⟩
          go_wp2
          go_ret
          exact ⟨rfl, hs3.trans (hb4.mono hs3.size)⟩
        · have hL2 : ((L : Int) % 2 == 0) = false := by rw [hlp, show L % 2 = 1 by omega]; rfl
          have hv := HV.out (by omega)
          have HO := Lib.hid ho
          cases bo with
          | false =>
            have hq : q = 0 := hv.2 rfl
            subst hq
            clear hlp ho hv
            go_wp2_with fail
            refine (live3_any _).mono ?_
            rintro e w4 ⟨rfl, hb4⟩
            have k0' : w4.cell? ⟨w.heap.size, 0, none⟩ = some (.int .i64 V) := (hb4.cell (p := ⟨w.heap.size, 0, none⟩) hl3).trans k0
            have k1' : w4.cell? ⟨w.heap.size, 1, none⟩ = some (.int .u32 L) := (hb4.cell (p := ⟨w.heap.size, 1, none⟩) hl3).trans k1
            have hs4 := hs3.trans (hb4.mono hs3.size)
            clear k0 k1
            go_wp2_with fail
            refine (HFF.out _ (HXB.out.step hb4)).mono ?_
            rintro e w5 ⟨rfl, hb5⟩
            go_wp2
            go_ret
            exact ⟨rfl, hs4.trans (hb5.mono hs4.size)⟩
          | true =>
            have hq : ((q : Int) == 0) = false := by
              have : ¬ q = 0 := fun e => by have := hv.1 e; cases this
              simp; omega
            clear hlp ho hv
            go_wp2_with fail
            refine (live3_any _).mono ?_
            rintro e w4 ⟨rfl, hb4⟩
            have k0' : w4.cell? ⟨w.heap.size, 0, none⟩ = some (.int .i64 V) := (hb4.cell (p := ⟨w.heap.size, 0, none⟩) hl3).trans k0
            have k1' : w4.cell? ⟨w.heap.size, 1, none⟩ = some (.int .u32 L) := (hb4.cell (p := ⟨w.heap.size, 1, none⟩) hl3).trans k1
            have hs4 := hs3.trans (hb4.mono hs3.size)
            clear k0 k1
            go_wp2_with fail
            refine (HFF.out _ (HXB.out.step hb4)).mono ?_
            rintro e w5 ⟨rfl, hb5⟩
            go_wp2
            go_ret
            exact ⟨rfl, hs4.trans (hb5.mono hs4.size)⟩

theorem walk (W L : Int) (A : Option Addr) (n c : Nat) (l : List Int) (a t : Int) (w : World) (hW : (Lit.int .i64 W).wf = true) (hL : (Lit.int .u32 L).wf = true) (h : Byt w w.heap.size A n c l) (hz : c * 1 ≤ 140737488351232) (ha : (Lit.int .u8 a).wf = true) (ht : (Lit.int .u32 t).wf = true) :
    Calls Try.prog 6 #[.int .i64 W, .int .u32 L, .slice A n c, .int .u8 a, .int .u32 t] w fun e w' => e = .returned (.bool true) ∧ Below w.heap.size w w' := by
  have hW' := bounds_i64 hW
  have hL' := bounds_u32 hL
  have ha' := bounds_u8 ha
  have ht' := bounds_u32 ht
  have hcap := h.cap
  obtain ⟨L, rfl⟩ := Int.eq_ofNat_of_zero_le (show 0 ≤ L by omega)
  obtain ⟨a, rfl⟩ := Int.eq_ofNat_of_zero_le (show 0 ≤ a by omega)
  obtain ⟨t, rfl⟩ := Int.eq_ofNat_of_zero_le (show 0 ≤ t by omega)
  by_cases hok : okV W L = true
  · have hk := okV_true hok
    obtain ⟨V, rfl⟩ : ∃ V : Nat, W = V := ⟨W.toNat, by omega⟩
    rw [Int.toNat_natCast] at hk
    exact some_ V L a t A n c l w (by omega) (by omega) hk.2.2 (by omega) (by omega) h (by omega)
  · exact none_ W L a t A n c l w (by omega) hok h

theorem own : ownKnob Try.prog.godebug = none := by kernel_rfl
theorem laidOut : laidOutB Try.prog = true := by kernel_rfl

theorem bytes1 : Try.prog.bytesOf 5 = 1 := by kernel_rfl


set_option maxRecDepth 100000 in
theorem lifted (os : Os) (started : os.Started) (H : Type) (enc : TypeId × Value → H) :
    ReturnsInHanded {} Try.checked os 6 .any (Rows.polySealsSpec.pre6 enc Try.prog Try.f6 Rows.polySealsRow.domain false) (Rows.polySealsSpec.post enc Try.prog Try.f6 false true false false) := by
  refine returnsInHanded_of_change_sized (C := Try.checked) own started (by kernel_rfl) Try.func6
    (ChangeSpec.witness6 (enc := enc) (C := Try.checked) false ⟨#[], #[.int .i64 0, .int .u32 0, .slice none 0 0, .int .u8 0, .int .u32 0], []⟩ 8 (by kernel_rfl) (by kernel_rfl) (by kernel_rfl) (by kernel_rfl)) ?_
  intro W base args ds gs before hval0 hW hcnd hsz0 _
  have hval : ∀ (j : Nat) t v, Try.f6.params[j]? = some t → args[j]? = some v → Value.okWide Try.prog W .any base t v := hval0
  have hsz : (DataW.weightsEach Try.prog (Try.f6.params.toList ++ Rows.polySealsSpec.plain.varTypes Try.prog) (ds ++ gs)).all (· ≤ reachBytes) = true := hsz0
  have hW' := hW
  obtain ⟨p, q, hA0, hV, rfl, hfz, hnd⟩ := hW
  have hA : DataW.TrodAll enc Try.prog W 0 (fun _ => true) true Try.f6.params.toList args.toList ds p := hA0
  rw [Try.params6] at hA hval hsz
  obtain ⟨v0, vs0, d0, ds0, p0, q0, hargs, rfl, rfl, h0, r0⟩ := trodAll_cons hA
  obtain ⟨v1, vs1, d1, ds1, p1, q1, rfl, rfl, rfl, h1, r1⟩ := trodAll_cons r0
  obtain ⟨v2, vs2, d2, ds2, p2, q2, rfl, rfl, rfl, h2, r2⟩ := trodAll_cons r1
  obtain ⟨v3, vs3, d3, ds3, p3, q3, rfl, rfl, rfl, h3, r3⟩ := trodAll_cons r2
  obtain ⟨v4, vs4, d4, ds4, p4, q4, rfl, rfl, rfl, h4, r4⟩ := trodAll_cons r3
  obtain ⟨rfl, rfl, rfl⟩ := trodAll_nil r4
  obtain rfl : args = #[v0, v1, v2, v3, v4] := by cases args; simp_all
  obtain ⟨rfl, rfl⟩ := trodVars_none hV
  obtain ⟨a0, rfl, rfl, rfl, w0⟩ := open_int Try.underlying3 (hval 0 3 v0 rfl rfl) h0
  obtain ⟨a1, rfl, rfl, rfl, w1⟩ := open_int Try.underlying22 (hval 1 22 v1 rfl rfl) h1
  obtain ⟨a2, len2, cap2, rfl⟩ := okWide_slice Try.underlying23 (hval 2 23 v2 rfl rfl)
  have k2 := h2
  have lt2 : ∀ x ∈ p2, x.block < W.heap.size := by obtain ⟨m, hm⟩ := k2; exact DataW.trod_lt m _ _ _ hm
  obtain ⟨z2, w2, y2⟩ : ∃ zs, Byt W W.heap.size a2 len2 cap2 zs ∧ cap2 * 1 ≤ 140737488351232 := by
    obtain ⟨fuel, hf⟩ := h2
    rcases open_ints Try.underlying23 Try.underlying5 (by kernel_rfl) hf with ⟨hcs, _⟩ | ⟨x, l, c, zs, hcs, _, hl, hm, hz, hx, hcell, hwz⟩
    · simp [Value.cells] at hcs
      obtain ⟨rfl, rfl, rfl⟩ := hcs
      exact ⟨[], Byt.nil_ _ _, by omega⟩
    · simp [Value.cells] at hcs
      obtain ⟨rfl, rfl, rfl⟩ := hcs
      have hs := hsz
      obtain ⟨rfl, rfl⟩ := hx
      have hs := sized_slice hs (j := 2) (t := 23) (e := 5) rfl rfl Try.underlying23
      rw [bytes1] at hs
      simp only [lits, List.length_map, List.length_take, List.length_drop, reachBytes] at hs
      exact ⟨_, byt_of_row hl hm (by simpa using hz) hcell hwz, by simp at hz; omega⟩
  obtain ⟨a3, rfl, rfl, rfl, w3⟩ := open_int Try.underlying5 (hval 3 5 v3 rfl rfl) h3
  obtain ⟨a4, rfl, rfl, rfl, w4⟩ := open_int Try.underlying22 (hval 4 22 v4 rfl rfl) h4
  clear hA0 hval0
  refine (walk a0 a1 a2 len2 cap2 z2 a3 a4 W w0 w1 w2 y2 w3 w4).mono fun e W' ⟨he, bel⟩ => ?_
  subst he
  exact ⟨_, rfl, _, _, _, [], _, [], hW', trodAll_mk1 (shut_bool Try.underlying4 _), (trodAll_cons_mk (shut_int Try.underlying3 w0) (trodAll_cons_mk (shut_int Try.underlying22 w1) (trodAll_cons_mk (Below.trod laidOut (by kernel_rfl) (of_decide_eq_true (by kernel_rfl)) k2 bel lt2) (trodAll_cons_mk (shut_int Try.underlying5 w3) (trodAll_cons_mk (shut_int Try.underlying22 w4) trodAll_mk0))))), rfl, bel.frame _, fun h => by cases h⟩

theorem over : Rows.polySealsRow.holds Try.pinned (OpenSpec.ofChange Rows.polySealsSpec) :=
  OpenClaim.holds_of_wide 6 Try.f6 rfl rfl rfl rfl rfl rfl rfl ⟨rfl, rfl, rfl, rfl, rfl⟩ rfl rfl rfl rfl rfl (by kernel_rfl) Try.func6 (by kernel_rfl)
    (of_decide_eq_true (by kernel_rfl)) (by unfold Func.isWrapper; first | (rw [if_pos (by decide +kernel)]; kernel_rfl) | (rw [if_neg (by decide +kernel)]; exact ⟨rfl, rfl⟩))
    (fun os started H enc _ => lifted os started H enc)

theorem proved : Rows.PolySealsSaid := over
end Go.Proofs.Ytmcpaficeaphlaa.polySeals
