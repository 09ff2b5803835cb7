/- What Whole and Rem answer of any divisor, or of what is none; parts of a slice. -/
import Derived.Test.YtkgnhmddnfmhjaaWPolyE
namespace Go.Proofs.Ytkgnhmddnfmhjaa
open Go.RowKit
theorem Byt.take {w : World} {B n c : Nat} {A : Option Addr} {l : List Int} (h : Byt w B A n c l) {k : Nat} (hk : k ≤ n) : Byt w B A k c (l.take k) :=
  ⟨by rw [List.length_take, h.len]; omega, by have := h.cap; omega, h.max, fun x hx => h.rng x (List.mem_of_mem_take hx), fun h0 => by
    obtain ⟨b, off, e, hb, hc⟩ := h.cells (by omega)
    refine ⟨b, off, e, hb, fun j hj => ?_⟩
    rw [hc j (by omega)]
    simp [List.getD, hj]⟩
theorem Byt.cut {w : World} {B n c : Nat} {A : Option Addr} {l : List Int} (h : Byt w B A n c l) {s : Nat} (hs : s ≤ n) : Byt w B (if c = s then A else A.map (fun x => x.add s)) (n - s) (c - s) (l.drop s) :=
  ⟨by rw [List.length_drop, h.len], by have := h.cap; omega, by have := h.max; omega, fun x hx => h.rng x (List.mem_of_mem_drop hx), fun h0 => by
    obtain ⟨b, off, rfl, hb, hc⟩ := h.cells (by omega)
    have := h.cap
    rw [if_neg (by omega)]
    refine ⟨b, off + s, ?_, hb, fun j hj => ?_⟩
    · show some ((⟨b, off, none⟩ : Addr).add s) = _
      have e : (⟨b, off, none⟩ : Addr).add s = ⟨b, off + s, none⟩ := by unfold Addr.add; split <;> simp_all
      rw [e]
    · rw [Nat.add_assoc, hc (s + j) (by omega)]
      simp [List.getD, List.getElem?_drop]⟩
/-- Is it a divisor? -/
def okV (W : Int) (L : Nat) : Bool := decide (1 ≤ W ∧ W ≤ 31 ∧ L < 2 ^ W.toNat)
def wholeV (W : Int) (L : Nat) (l : List Int) : Nat := if okV W L then wholeN W.toNat L l else 0
def remV (W : Int) (L s : Nat) (l : List Int) : Nat := if okV W L then remN W.toNat L s l else 0
theorem okV_true {W : Int} {L : Nat} (h : okV W L = true) : 1 ≤ W ∧ W ≤ 31 ∧ L < 2 ^ W.toNat := of_decide_eq_true h
theorem okV_false {W : Int} {L : Nat} (h : ¬ okV W L = true) : ¬ (1 ≤ W ∧ W ≤ 31 ∧ L < 2 ^ W.toNat) := fun e => h (decide_eq_true e)
theorem pow_cast {W : Int} (h : 1 ≤ W) : ((W.toNat : Nat) : Int) = W := by omega
theorem wholeV_lt (W : Int) (L : Nat) (l : List Int) : wholeV W L l < 4294967296 := by
  unfold wholeV
  split
  · rename_i h
    have h := okV_true h
    have := whole_lt (W := W.toNat) (by omega) h.2.2 l
    have := pow32 (W := W.toNat) (by omega)
    omega
  · omega
theorem remV_lt (W : Int) (L s : Nat) (l : List Int) : remV W L s l < 4294967296 := by
  unfold remV
  split
  · rename_i h
    have h := okV_true h
    have := rem_lt (W := W.toNat) h.2.2 s l
    have := pow32 (W := W.toNat) (by omega)
    omega
  · omega
theorem rem_any (W : Int) (L s : Nat) (A : Option Addr) (n c : Nat) (l : List Int) (w : World) (hs : s < 4294967296) (h : Byt w w.heap.size A n c l) :
    Calls Try.prog 38 #[.agg #[.int .i64 W, .int .u32 L], .int .u32 s, .slice A n c] w fun e w' => e = .returned (.int .u32 ((remV W L s l : Nat) : Int)) ∧ Below w.heap.size w w' := by
  unfold remV
  split
  · rename_i hk
    have hk := okV_true hk
    have := rem_yes W.toNat L s A n c l w (by omega) (by omega) hk.2.2 hs h
    rw [pow_cast hk.1] at this
    exact this
  · rename_i hk
    exact rem_no W L s A n c w (okV_false hk)
theorem remV_pieces (W : Int) (L s k : Nat) (l : List Int) : remV W L (remV W L s (l.take k)) (l.drop k) = remV W L s l := by
  unfold remV
  split
  · rename_i hk
    rw [← rem_pieces (okV_true hk).2.2, List.take_append_drop]
  · rfl
theorem remV_none (W : Int) (L s : Nat) (l : List Int) (h : W < 1 ∨ 31 < W) : remV W L s l = 0 := by
  unfold remV
  rw [if_neg]
  intro e
  have := okV_true e
  omega
end Go.Proofs.Ytkgnhmddnfmhjaa