/- What the document's add answers, of rows of one length. -/
import Derived.Test.YtkgnhmddnfmhjaaWPolyH
namespace Go.Proofs.Ytkgnhmddnfmhjaa
open Go.RowKit
/-- Two rows' sum, as far as the first j bits; the first row's bits behind. -/
def addP (l m : List Int) (j : Nat) : List Int := (List.range l.length).map fun i => if i < j then (l.getD i 0 % 2 + m.getD i 0 % 2) % 2 else l.getD i 0 % 2
theorem addP_len (l m : List Int) (j : Nat) : (addP l m j).length = l.length := by simp [addP]
theorem addP_getD (l m : List Int) (j : Nat) {i : Nat} (h : i < l.length) : (addP l m j).getD i 0 = if i < j then (l.getD i 0 % 2 + m.getD i 0 % 2) % 2 else l.getD i 0 % 2 := by
  simp only [addP, List.getD, List.getElem?_map, List.getElem?_range h, Option.map_some, Option.getD_some]
theorem addP_bits (l m : List Int) (j : Nat) : ∀ x ∈ addP l m j, x = 0 ∨ x = 1 := by
  intro x hx
  simp only [addP, List.mem_map] at hx
  obtain ⟨i, _, rfl⟩ := hx
  split <;> omega
theorem addP_zero (l m : List Int) : addP l m 0 = pl l := by
  apply List.ext_getElem
  · simp [addP_len, pl_len]
  · intro i h1 h2
    rw [addP_len] at h1
    have := addP_getD l m 0 h1
    rw [if_neg (by omega)] at this
    simp only [List.getD, List.getElem?_eq_getElem (show i < (addP l m 0).length by rw [addP_len]; exact h1), List.getElem?_eq_getElem h1, Option.getD_some] at this
    rw [this]
    simp [pl]
theorem addP_step (l m : List Int) (j : Nat) : addP l m (j + 1) = (addP l m j).set j ((l.getD j 0 % 2 + m.getD j 0 % 2) % 2) := by
  apply List.ext_getElem
  · simp [addP_len]
  · intro i h1 h2
    rw [addP_len] at h1
    have e1 := addP_getD l m (j + 1) h1
    have e2 := addP_getD l m j h1
    simp only [List.getD, List.getElem?_eq_getElem (show i < (addP l m (j + 1)).length by rw [addP_len]; exact h1), Option.getD_some] at e1
    simp only [List.getD, List.getElem?_eq_getElem (show i < (addP l m j).length by rw [addP_len]; exact h1), Option.getD_some] at e2
    rw [e1, List.getElem_set]
    by_cases e : j = i
    · subst e; rw [if_pos (by omega), if_pos rfl]; rfl
    · rw [if_neg e, e2]
      by_cases h3 : i < j
      · rw [if_pos h3, if_pos (by omega)]
      · rw [if_neg h3, if_neg (by omega)]
/-- One cell of an own row of bytes. -/
theorem own_get {w : World} {base g cap n : Nat} {t : TypeId} {l : List Int} (h : w.ownsRow base t 1 (.slice (some ⟨g, 0, none⟩) n cap) n (l.map (Value.int .u8))) {j : Nat} (hj : j < n) : w.cell? ⟨g, j, none⟩ = some (.int .u8 (l.getD j 0)) := by
  have hl : l.length = n := by have := h.1; simpa using this
  rw [World.ownsRow.cellAt h j (by omega), List.getElem?_map, List.getElem?_eq_getElem (by omega)]
  simp [List.getD, List.getElem?_eq_getElem (show j < l.length by omega)]
theorem own_set {w : World} {base g cap n : Nat} {t : TypeId} {l : List Int} (h : w.ownsRow base t 1 (.slice (some ⟨g, 0, none⟩) n cap) n (l.map (Value.int .u8))) (j : Nat) (q : Int) : (w.setCell ⟨g, j, none⟩ (.int .u8 q)).ownsRow base t 1 (.slice (some ⟨g, 0, none⟩) n cap) n ((l.set j q).map (Value.int .u8)) := by
  rw [List.map_set]
  exact (World.ownsRow.stored h j (.int .u8 q)).1
theorem own_caps {w : World} {base g cap n : Nat} {t : TypeId} {xs : List Value} (h : w.ownsRow base t 1 (.slice (some ⟨g, 0, none⟩) n cap) n xs) : base ≤ g ∧ n ≤ cap ∧ cap ≤ 9223372036854775807 := by
  refine ⟨(h.lt g (by simp [Value.ownBlock])).1, ?_, ?_⟩
  all_goals
    rcases h.2 with ⟨h', _⟩ | ⟨g', cap', cur, h', _, _, hnc, hm, _⟩
    · simp at h'
    · simp only [Value.slice.injEq, Option.some.injEq, Addr.mk.injEq, and_true, true_and] at h'
      obtain ⟨rfl, rfl⟩ := h'
      simp only [maxLen] at hm
      omega

theorem radd_any (w : World) (A B : Option Addr) (n c d : Nat) (l m : List Int) (h : Byt w w.heap.size A n c l) (g : Byt w w.heap.size B n d m) (hn : n ≤ 1000000) (hn0 : 0 < n) :
    Calls Try.prog 52 #[.slice A n c, .slice B n d] w fun e w' => ∃ A' c', e = .returned (.slice A' n c') ∧ Byt w' w'.heap.size A' n c' (addP l m n) ∧ Below w.heap.size w w' := by
  have hpl := fun (w : World) (h : Byt w w.heap.size A n c l) => plain_own w A n c l h (by omega)
  rw [← addP_zero l m] at hpl
  have hlen := h.len
  have hbits := fun j => addP_bits l m j
  have hstep := fun j => addP_step l m j
  have hgd := fun j (hj : j < n) => addP_getD l m j (show j < l.length by rw [hlen]; exact hj)
  have HPL := Lib.hid hpl
  have HL := Lib.hid hlen
  have HBI := Lib.hid hbits
  have HST := Lib.hid hstep
  have HGD := Lib.hid hgd
  clear hpl hlen hbits hstep hgd
  go_enter Try.func52, Try.ntmps52
  go_wp2_with fail
  refine (HPL.out _ h).mono ?_
  rintro e w1 ⟨v1, rfl, hown1, hb1⟩
  obtain ⟨g1, cap, rfl⟩ := Go.Joins.ownsRow_form hown1 (by omega)
  obtain ⟨hgb, hcap, hcapm⟩ := own_caps hown1
  have HB := Lib.hid g
  have hcd := g.cap
  have hcm := g.max
  simp only [maxLen] at hcm
  clear h g
  go_wp2_with fail
  go_loopw [6] (fun i wr => ∃ j : Nat, j ≤ n ∧ i = .int .i64 j ∧ wr.ownsRow w.heap.size 5 1 (.slice (some ⟨g1, 0, none⟩) n cap) n ((addP l m j).map (Value.int .u8)) ∧ Below w.heap.size w wr) (fun i _ => n - (intOf i).toNat)
  case atStart => exact ⟨0, Nat.zero_le _, rfl, hown1, hb1⟩
  case round =>
    obtain ⟨j, hj, rfl, hown, hbel⟩ := hrel
    by_cases hlt : j < n
    · have hBr := HB.out.below hbel
      obtain ⟨bb, ob, rfl, hbb, hcb⟩ := hBr.cells (by omega)
      have hcj := hcb j hlt
      have hrb := hBr.range j
      have hgc := own_get hown hlt
      have hgf := World.ownsRow.frozenAt hown j
      have e1 := HGD.out j hlt
      rw [if_neg (Nat.lt_irrefl j)] at e1
      rw [e1] at hgc
      have hset := own_set hown j ((l.getD j 0 % 2 + m.getD j 0 % 2) % 2)
      rw [← HST.out j] at hset
      have hu : 0 ≤ l.getD j 0 % 2 ∧ l.getD j 0 % 2 ≤ 1 := by omega
      generalize l.getD j 0 % 2 = u at hgc hset hu
      generalize m.getD j 0 = v at hcj hrb hset
      obtain ⟨hu0, hu1⟩ := hu
      obtain ⟨hv0, hv1⟩ := hrb
      rw [show (u + v % 2) % 2 = (u + v) % 2 by omega] at hset
      have HSET := Lib.hid hset
      have hji : (j : Int) < (n : Int) := by omega
      clear hBr hcb e1 hset hown hown1
      go_wp2_with fail
      go_region
      go_wp2
      go_roundw
      case rel => exact ⟨j + 1, by omega, by go_num, HSET.out, (hbel.setCell hgb _).drew⟩
      case measure => simp [intOf]; omega
    · obtain rfl : j = n := by omega
      clear HB
      go_wp2
      go_ret
      obtain ⟨A', c', hv, hB, _⟩ := Byt.of_own hown (fun x hx => by have := HBI.out j x hx; omega)
      cases hv
      exact ⟨_, _, rfl, hB, hbel⟩
end Go.Proofs.Ytkgnhmddnfmhjaa