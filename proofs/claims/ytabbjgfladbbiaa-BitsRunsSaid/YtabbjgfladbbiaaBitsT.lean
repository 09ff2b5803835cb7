/- What clean and Turn answer. -/
import Derived.Test.YtabbjgfladbbiaaBase3
import Derived.Test.YtabbjgfladbbiaaBitsA
namespace Go.Proofs.Ytabbjgfladbbiaa
open Go.RowKit

theorem clean_any (w : World) (A : Option Addr) (n c : Nat) (l : List Int) (h : Byt w w.heap.size A n c l) (hn : n ≤ 281474976710656) :
    Calls Try.prog 29 #[.slice A n c] w fun e w' => ∃ g, e = .returned (.slice (some ⟨g, 0, none⟩) n n) ∧ w.heap.size ≤ g ∧ w'.rowIs g 5 n (fun j => .int .u8 ((pl l).getD j 0)) ∧ Below w.heap.size w w' := by
  have hmk := make_row n hn
  go_enter Try.func29, Try.ntmps29
  go_wp2_with fail
  go_loopw [11] (fun i wr => ∃ j : Nat, j ≤ n ∧ i = .int .i64 j ∧ wr.rowIs w.heap.size 5 n (upto (pl l) j) ∧ Below w.heap.size w wr) (fun i _ => n - (intOf i).toNat)
  case atStart => exact ⟨0, Nat.zero_le _, rfl, upto_zero _, (Below.refl _ _).alloc (Nat.le_refl _) _⟩
  case round =>
    obtain ⟨j, hj, rfl, hrow, hbel⟩ := hrel
    by_cases hlt : j < n
    · obtain ⟨b, off, rfl, hb, hc⟩ := h.cells (by omega)
      have hrange := h.range j
      have hcj := hc j hlt
      have hget : (pl l).getD j 0 = l.getD j 0 % 2 := getD_map (f := (· % 2)) (by rw [h.len]; exact hlt)
      generalize l.getD j 0 = q at hrange hcj hget
      have hcell : wr.cell? ⟨b, off + j, none⟩ = some (.int .u8 q) := (hbel.cell (p := ⟨b, off + j, none⟩) hb).trans hcj
      have hgc := hrow.cell hlt
      have hgf := hrow.frozen j
      have HG := Lib.hid hget
      have HH := Lib.hid h
      obtain ⟨hq0, hq1⟩ := hrange
      clear hcj hget hc h
      go_wp2_with (go_at_call 25; refine (low_any _ _ (by omega) (by omega)).mono ?_; rintro e w1 ⟨rfl, rfl⟩)
      go_roundw
      case rel => exact ⟨j + 1, by omega, by go_num, upto_step hrow (by rw [HG.out]), hbel.setCell (Nat.le_refl _) _⟩
      case measure => simp [intOf]; omega
    · obtain rfl : j = n := by omega
      have hrow2 := upto_done hrow
      clear hrow h
      go_wp2
      go_ret
      exact ⟨_, rfl, Nat.le_refl _, hrow2, hbel⟩

/-- How often a place stands there. -/
def cnt (at_ : List Int) (i : Nat) : Nat := (at_.filter fun x => x == (i : Int)).length
theorem cnt_snoc (a : List Int) (x : Int) (i : Nat) : cnt (a ++ [x]) i = cnt a i + if x = (i : Int) then 1 else 0 := by
  unfold cnt
  rw [List.filter_append, List.length_append]
  by_cases h : x = (i : Int)
  · simp [h]
  · simp [h]
theorem cnt_le (a : List Int) (i : Nat) : cnt a i ≤ a.length := List.length_filter_le _ _
/-- A bit that is turned so often. -/
def tb (l at_ : List Int) (i : Nat) : Int := (l.getD i 0 + (cnt at_ i : Int)) % 2
theorem tb_snoc_eq (l a : List Int) (i : Nat) : tb l (a ++ [(i : Int)]) i = 1 - tb l a i := by
  unfold tb; rw [cnt_snoc, if_pos rfl]; omega
theorem tb_snoc_ne (l a : List Int) {x : Int} {i : Nat} (h : ¬ x = (i : Int)) : tb l (a ++ [x]) i = tb l a i := by
  unfold tb; rw [cnt_snoc, if_neg h]; simp
theorem tb_range (l a : List Int) (i : Nat) : 0 ≤ tb l a i ∧ tb l a i ≤ 1 := by unfold tb; omega
def tL (l at_ : List Int) : List Int := (List.range l.length).map (tb l at_)
theorem tL_len (l a : List Int) : (tL l a).length = l.length := by simp [tL]
theorem tL_getD (l a : List Int) {i : Nat} (h : i < l.length) : (tL l a).getD i 0 = tb l a i := by simp [tL, List.getD, h]
theorem tL_range (l a : List Int) : ∀ x ∈ tL l a, 0 ≤ x ∧ x ≤ 255 := by
  intro x hx
  simp only [tL, List.mem_map] at hx
  obtain ⟨i, _, rfl⟩ := hx
  have := tb_range l a i
  omega

theorem turn_any (w : World) (A : Option Addr) (n c : Nat) (l : List Int) (h : Byt w w.heap.size A n c l) (hn : n ≤ 281474976710656)
    (A2 : Option Addr) (m c2 : Nat) (a : List Int) (h2 : Nums w w.heap.size A2 m c2 a) :
    Calls Try.prog 21 #[.slice A n c, .slice A2 m c2] w fun e w' => ∃ A' c', e = .returned (.slice A' n c') ∧ Byt w' w'.heap.size A' n c' (tL l a) ∧ Below w.heap.size w w' := by
  have hmx := h2.max
  have hcx := h2.cap
  simp only [maxLen] at hmx
  go_enter Try.func21, Try.ntmps21
  go_wp2_with fail
  refine (clean_any _ _ _ _ _ h hn).mono ?_
  rintro e w1 ⟨g, rfl, hg, hrow1, hb1⟩
  have h2' := h2.below hb1
  have hL := h.len
  have hrow : w1.rowIs g 5 n (fun i => .int .u8 (tb l (a.take 0) i)) := hrow1.congr fun i hi => by
    have e : (pl l).getD i 0 = l.getD i 0 % 2 := getD_map (f := (· % 2)) (by rw [h.len]; exact hi)
    rw [e]; simp [tb, cnt]
  clear hrow1 h h2
  go_wp2_with fail
  go_loopw [12] (fun i wr => ∃ j : Nat, j ≤ m ∧ i = .int .i64 j ∧ wr.rowIs g 5 n (fun i => .int .u8 (tb l (a.take j) i)) ∧ Below w.heap.size w1 wr) (fun i _ => m - (intOf i).toNat)
  case atStart => exact ⟨0, Nat.zero_le _, rfl, hrow, Below.refl _ _⟩
  case round =>
    obtain ⟨j, hj, rfl, hrow, hbel⟩ := hrel
    by_cases hlt : j < m
    · obtain ⟨b, off, rfl, hb, hc⟩ := h2'.cells (by omega)
      have hrange := h2'.range j
      have hcj := hc j hlt
      have htake : a.take (j + 1) = a.take j ++ [a.getD j 0] := take_succ_getD (by rw [h2'.len]; exact hlt)
      generalize a.getD j 0 = q at hrange hcj htake
      have hcell : wr.cell? ⟨b, off + j, none⟩ = some (.int .i64 q) := (hbel.cell (p := ⟨b, off + j, none⟩) hb).trans hcj
      have HT := Lib.hid htake
      have H2 := Lib.hid h2'
      have HL := Lib.hid hL
      obtain ⟨hq0, hq1⟩ := hrange
      clear hcj htake hc h2' hL
      by_cases hq2 : 0 ≤ q
      · obtain ⟨k, rfl⟩ := Int.eq_ofNat_of_zero_le hq2
        by_cases hkn : k < n
        · have hgc := hrow.cell hkn
          have hgf := hrow.frozen k
          have hr := tb_range l (a.take j) k
          generalize hv : tb l (a.take j) k = v at hgc hr
          have HV := Lib.hid hv
          obtain ⟨hv0, hv1⟩ := hr
          clear hv
          go_wp2
          go_roundw
          case rel =>
            refine ⟨j + 1, by omega, by go_num, (hrow.set k (.int .u8 (1 - v))).congr fun i _ => ?_, hbel.setCell hg _⟩
            rw [HT.out]
            by_cases e : i = k
            · subst e; rw [if_pos rfl, tb_snoc_eq, HV.out]
            · rw [if_neg e, tb_snoc_ne _ _ (by omega)]
          case measure => simp [intOf]; omega
        · go_wp2
          go_roundw
          case rel =>
            refine ⟨j + 1, by omega, by go_num, hrow.congr fun i hi => ?_, hbel⟩
            rw [HT.out, tb_snoc_ne _ _ (by omega)]
          case measure => simp [intOf]; omega
      · go_wp2
        go_roundw
        case rel =>
          refine ⟨j + 1, by omega, by go_num, hrow.congr fun i hi => ?_, hbel⟩
          rw [HT.out, tb_snoc_ne _ _ (by omega)]
        case measure => simp [intOf]; omega
    · obtain rfl : j = m := by omega
      have hm := h2'.len
      have hm2 : n ≤ 281474976710656 := hn
      rw [List.take_of_length_le (by omega)] at hrow
      have HR := Lib.hid hrow
      have HL := Lib.hid hL
      clear hm h2' hrow hL
      go_wp2
      go_ret
      have hl := HL.out
      refine ⟨_, _, rfl, Byt.of_row (HR.out.congr fun i hi => ?_) (by rw [tL_len]; exact hl) (by simp only [maxLen]; omega) (tL_range l a), hb1.trans hbel⟩
      rw [tL_getD _ _ (by omega)]
end Go.Proofs.Ytabbjgfladbbiaa
