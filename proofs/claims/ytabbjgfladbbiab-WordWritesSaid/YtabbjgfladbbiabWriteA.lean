/- What a row of Fields makes, as far as it fits; and small words for two rows of a call's own beside each other. -/
import Derived.Test.YtabbjgfladbbiabLive2
import Derived.Test.YtabbjgfladbbiabWordF
import Derived.Test.YtabbjgfladbbiabWordX
import Derived.Test.YtabbjgfladbbiabRefE
import Derived.Deep.RegionHeld3
namespace Go.Proofs.Ytabbjgfladbbiab
open Go.RowKit

/-- What a field makes. -/
def gv (f : FieldV) : List Int := if f.k = 8 then f.l.take 50 else putA f.k f.n
def ge (f : FieldV) : Int := if f.k = 8 then 0 else putE f.k f.n
def errL (fs : Nat → FieldV) : Nat → Int
  | 0 => 0
  | j + 1 => if errL fs j = 0 then ge (fs j) else errL fs j
def cntL (fs : Nat → FieldV) : Nat → Nat
  | 0 => 0
  | j + 1 => if errL fs (j + 1) = 0 then cntL fs j + 1 else cntL fs j
def outL (fs : Nat → FieldV) : Nat → List Int
  | 0 => []
  | j + 1 => outL fs j ++ gv (fs j)
theorem gv_len (f : FieldV) : (gv f).length ≤ 50 := by
  unfold gv
  split
  · rw [List.length_take]; omega
  · have := putA_len f.k f.n; omega
theorem outL_len (fs : Nat → FieldV) (j : Nat) : (outL fs j).length ≤ 50 * j := by
  induction j with
  | zero => exact Nat.le_refl _
  | succ j ih => show (outL fs j ++ gv (fs j)).length ≤ _; rw [List.length_append]; have := gv_len (fs j); omega
theorem cnt_le (fs : Nat → FieldV) (j : Nat) : cntL fs j ≤ j := by
  induction j with
  | zero => exact Nat.le_refl _
  | succ j ih => unfold cntL; split <;> omega
theorem cnt_all (fs : Nat → FieldV) (j : Nat) (h : errL fs j = 0) : cntL fs j = j := by
  induction j with
  | zero => rfl
  | succ j ih =>
    have h0 : errL fs j = 0 := by
      unfold errL at h
      split at h
      · assumption
      · exact h
    unfold cntL
    rw [if_pos h, ih h0]
theorem err_less (fs : Nat → FieldV) : ∀ j t, t < cntL fs j → ge (fs t) = 0
  | 0, t, h => absurd h (by unfold cntL; omega)
  | j + 1, t, h => by
    unfold cntL at h
    split at h
    · rename_i h1
      unfold errL at h1
      split at h1
      · rename_i h0
        rw [cnt_all fs j h0] at h
        by_cases e : t = j
        · rw [e]; exact h1
        · exact err_less fs j t (by rw [cnt_all fs j h0]; omega)
      · rename_i h0; exact absurd h1 h0
    · exact err_less fs j t h
/-- One step, told by the state ahead of it. -/
theorem step_ok (fs : Nat → FieldV) (j : Nat) (h : errL fs j = 0) (hg : ge (fs j) = 0) : errL fs (j + 1) = 0 ∧ cntL fs (j + 1) = cntL fs j + 1 ∧ outL fs (cntL fs j + 1) = outL fs (cntL fs j) ++ gv (fs j) := by
  have e1 : errL fs (j + 1) = 0 := by unfold errL; rw [if_pos h]; exact hg
  refine ⟨e1, by rw [show cntL fs (j + 1) = if errL fs (j + 1) = 0 then cntL fs j + 1 else cntL fs j from rfl, if_pos e1], ?_⟩
  rw [cnt_all fs j h]; rfl
theorem step_bad (fs : Nat → FieldV) (j : Nat) (h : errL fs j = 0) (hg : ¬ ge (fs j) = 0) : errL fs (j + 1) = ge (fs j) ∧ cntL fs (j + 1) = cntL fs j := by
  have e1 : errL fs (j + 1) = ge (fs j) := by unfold errL; rw [if_pos h]
  exact ⟨e1, by rw [show cntL fs (j + 1) = if errL fs (j + 1) = 0 then cntL fs j + 1 else cntL fs j from rfl, e1, if_neg hg]⟩
theorem step_no (fs : Nat → FieldV) (j : Nat) (h : ¬ errL fs j = 0) : errL fs (j + 1) = errL fs j ∧ cntL fs (j + 1) = cntL fs j := by
  have e1 : errL fs (j + 1) = errL fs j := by
    show (if errL fs j = 0 then ge (fs j) else errL fs j) = errL fs j
    rw [if_neg h]
  exact ⟨e1, by rw [show cntL fs (j + 1) = if errL fs (j + 1) = 0 then cntL fs j + 1 else cntL fs j from rfl, e1, if_neg h]⟩
/-- What the fields from i on make, up to the place e. -/
def outF (fs : Nat → FieldV) (i : Nat) : Nat → List Int
  | 0 => []
  | d + 1 => gv (fs i) ++ outF fs (i + 1) d
theorem outF_snoc (fs : Nat → FieldV) : ∀ (d i : Nat), outF fs i (d + 1) = outF fs i d ++ gv (fs (i + d))
  | 0, i => by simp [outF]
  | d + 1, i => by
    rw [show outF fs i (d + 1 + 1) = gv (fs i) ++ outF fs (i + 1) (d + 1) from rfl, outF_snoc fs d (i + 1), show outF fs i (d + 1) = gv (fs i) ++ outF fs (i + 1) d from rfl, List.append_assoc, show i + 1 + d = i + (d + 1) by omega]
theorem outF_out (fs : Nat → FieldV) (n : Nat) : outF fs 0 n = outL fs n := by
  induction n with
  | zero => rfl
  | succ n ih => rw [outF_snoc, ih, Nat.zero_add]; rfl
theorem outF_len (fs : Nat → FieldV) (d : Nat) : ∀ i, (outF fs i d).length ≤ 50 * d := by
  induction d with
  | zero => intro i; exact Nat.le_refl _
  | succ d ih => intro i; show (gv (fs i) ++ outF fs (i + 1) d).length ≤ _; rw [List.length_append]; have := gv_len (fs i); have := ih (i + 1); omega

/-! ### Two rows beside each other -/
/-- A row does not lie where another one lies. -/
def Apart (v : Value) (A : Option Addr) : Prop := ∀ k, v.ownBlock = some k → ¬ rowOf A = some k
theorem Chg.below {w w' : World} {g B : Nat} {R : Option Nat} (h : Chg w w' g R) (hg : B ≤ g) (hR : ∀ k, R = some k → B ≤ k) (hB : B ≤ w.heap.size) : Below B w w' :=
  ⟨h.os, h.tape, h.output, h.size, fun k hk => h.block k (by omega) (by omega) (fun e => by have := hR k e.symm; omega)⟩
theorem own_chg {w w' : World} {g n : Nat} {R : Option Nat} {v : Value} {xs : List Value} (h : w.ownsRow (g + 1) 5 1 v n xs) (hc : Chg w w' g R) (ha : ∀ k, v.ownBlock = some k → ¬ R = some k) : w'.ownsRow (g + 1) 5 1 v n xs := by
  obtain ⟨h1, h2⟩ := h
  refine ⟨h1, ?_⟩
  rcases h2 with h2 | ⟨k, cap, cur, hv, hk, hh, r⟩
  · exact .inl h2
  · exact .inr ⟨k, cap, cur, hv, hk, (hc.block k (Array.getElem?_eq_some_iff.1 hh).1 (by omega) (fun e => ha k (by rw [hv]; rfl) e.symm)).trans hh, r⟩
theorem WrIn.row {w : World} {g c : Nat} {er : Int} {l : List Int} {A : Option Addr} (h : WrIn w g er l A c) : ∀ k, rowOf A = some k → g + 1 ≤ k ∧ k < w.heap.size := fun k hk => h.2.1.lt k (by rw [rowOf_own]; exact hk)
theorem WrIn.grown {w w' : World} {g c : Nat} {er : Int} {l : List Int} {A : Option Addr} {R : Option Nat} (h : WrIn w g er l A c) (hg : w.grownBy w' R) (h1 : ¬ R = some g) (h2 : ∀ k, rowOf A = some k → ¬ R = some k) : WrIn w' g er l A c :=
  ⟨(hg.block g h.1.lt (fun e => h1 e.symm)).trans h.1, by
    obtain ⟨a1, a2⟩ := h.2.1
    refine ⟨a1, ?_⟩
    rcases a2 with a2 | ⟨k, cap, cur, hv, hk, hh, r⟩
    · exact .inl a2
    · exact .inr ⟨k, cap, cur, hv, hk, (hg.block k (Array.getElem?_eq_some_iff.1 hh).1 (fun e => h2 k (by rw [← rowOf_own A l.length c, hv]; rfl) e.symm)).trans hh, r⟩, h.2.2⟩
theorem WrIn.byt {w : World} {g c : Nat} {er : Int} {l : List Int} {A : Option Addr} (h : WrIn w g er l A c) : Byt w w.heap.size A l.length c l := by
  obtain ⟨A', c', hv, hB, _⟩ := Byt.of_own h.2.1 h.2.2
  cases hv
  exact hB
/-- Behind a Writer's step the other row is apart again. -/
theorem apart_step {w : World} {g n : Nat} {v : Value} {xs : List Value} {A A' : Option Addr} (h : Apart v A) (ho : w.ownsRow (g + 1) 5 1 v n xs) (hA : rowOf A' = rowOf A ∨ ∃ k, rowOf A' = some k ∧ w.heap.size ≤ k) : Apart v A' := by
  intro k hk e
  rcases hA with h1 | ⟨m, h1, h2⟩
  · exact h k hk (by rw [← h1]; exact e)
  · rw [h1] at e
    injection e with e
    have := ho.lt k hk
    omega
theorem below_step {w w' : World} {g c B : Nat} {er : Int} {l : List Int} {A : Option Addr} (h : WrIn w g er l A c) (hc : Chg w w' g (rowOf A)) (hB : B ≤ g) : Below B w w' :=
  hc.below hB (fun k hk => by have := h.row k hk; omega) (Nat.le_trans hB (Nat.le_of_lt h.1.lt))
end Go.Proofs.Ytabbjgfladbbiab
