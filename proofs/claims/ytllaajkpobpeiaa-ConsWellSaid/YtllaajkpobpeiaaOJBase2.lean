/- More words that the proofs of this seat share: rows that are made in one go and filled place by place; one bit of a byte. Nothing of the program is named here. -/
import Derived.Test.YtllaajkpobpeiaaOJBase
import Derived.Deep.QuietTactic
import Derived.BigQuiet
import Derived.Deep.OwnRows
import Derived.Laws.BitsLemmas
import Derived.Laws.BitsAllLaws
namespace Go.Proofs.Ytllaajkpobpeiaa
open Go.RowKit
theorem and_one (x : Int) (h0 : 0 ≤ x) (h1 : x ≤ 255) : bits .and .u8 x 1 = x % 2 := bits_mask .u8 8 (by decide) wraps_u8 1 (by decide) x h0 (by omega)

theorem xor_flip_nat : ∀ n : Fin 256, (255 - n.val) ^^^ n.val = 255 := by decide +kernel
theorem xor_flip (x : Int) (h0 : 0 ≤ x) (h1 : x ≤ 255) : bits .xor .u8 (255 - x) x = 255 := by
  obtain ⟨n, rfl⟩ := Int.eq_ofNat_of_zero_le h0
  have h := xor_flip_nat ⟨n, by omega⟩
  have e : (255 : Int) - (n : Int) = ((255 - n : Nat) : Int) := by omega
  rw [e, u8_xor_nat _ _ (by omega) (by omega)]
  simp only at h
  rw [h]; rfl

/-- A row in a block of its own is a slice that reads so. -/
theorem Byt.of_row {w : World} {g : Nat} {t : TypeId} {n : Nat} {l : List Int} (h : w.rowIs g t n (fun j => .int .u8 (l.getD j 0))) (hl : l.length = n) (hm : n ≤ maxLen) (hr : ∀ x ∈ l, 0 ≤ x ∧ x ≤ 255) : Byt w w.heap.size (some ⟨g, 0, none⟩) n n l :=
  ⟨hl, Nat.le_refl _, hm, hr, fun _ => ⟨g, 0, rfl, h.lt, fun j hj => by rw [Nat.zero_add]; exact h.cell hj⟩⟩

/-- What a row holds whose first j places are filled from l, the rest not yet. -/
def upto (l : List Int) (j : Nat) (i : Nat) : Value := .int .u8 (if i < j then l.getD i 0 else 0)
theorem upto_zero {w : World} {n : Nat} {t : TypeId} (l : List Int) : (w.alloc (.cells (madeCells #[.int .u8 0] n) t)).rowIs w.heap.size t n (upto l 0) :=
  (World.rowIs_made w (.int .u8 0) n t).congr fun i _ => by simp [upto]
theorem upto_step {w : World} {g n j : Nat} {t : TypeId} {l : List Int} {q : Int} (h : w.rowIs g t n (upto l j)) (hq : q = l.getD j 0) : (w.setCell ⟨g, j, none⟩ (.int .u8 q)).rowIs g t n (upto l (j + 1)) :=
  (h.set j (.int .u8 q)).congr fun i _ => by
    unfold upto
    by_cases e : i = j
    · subst e; simp [hq]
    · rw [if_neg e]
      by_cases h1 : i < j
      · rw [if_pos h1, if_pos (by omega)]
      · rw [if_neg h1, if_neg (by omega)]
theorem upto_done {w : World} {g n : Nat} {t : TypeId} {l : List Int} (h : w.rowIs g t n (upto l n)) : w.rowIs g t n (fun j => .int .u8 (l.getD j 0)) :=
  h.congr fun i hi => by simp [upto, hi]

theorem getD_map {f : Int → Int} {l : List Int} {j : Nat} (hj : j < l.length) : (l.map f).getD j 0 = f (l.getD j 0) := by
  simp [List.getD, List.getElem?_map, List.getElem?_eq_getElem hj]
theorem take_succ_getD {l : List Int} {j : Nat} (hj : j < l.length) : l.take (j + 1) = l.take j ++ [l.getD j 0] := by
  rw [List.take_succ_eq_append_getElem hj]
  simp [List.getD, List.getElem?_eq_getElem hj]

end Go.Proofs.Ytllaajkpobpeiaa