/- The document's Sorted: the entries in order. -/
import Derived.Test.YtgaoplbocjadaaaYDz
import Derived.Test.YtgaoplbocjadaaaYDzd
import Derived.Deep.CutBlock
namespace Go.Proofs.Ytgaoplbocjadaaa
open Go.RowKit
set_option linter.unusedSimpArgs false
set_option linter.unusedVariables false
theorem less_key {x y : Int} : (x / 256 < y / 256 ∨ (x / 256 = y / 256 ∧ x % 256 < y % 256)) ↔ x < y := by omega
theorem rise_ext {A B : List (Int × Ent)} (ha : Rise A) (hb : Rise B) (h : ∀ x, x ∈ A ↔ x ∈ B) (hl : A.length = B.length) : A = B := by
  induction A generalizing B with
  | nil => exact (List.eq_nil_of_length_eq_zero (by simpa using hl.symm)).symm
  | cons x A ih =>
    match B, hl with
    | y :: B, hl =>
      have hx : x ∈ y :: B := (h x).1 (by simp)
      have hy : y ∈ x :: A := (h y).2 (by simp)
      have hA : ∀ z ∈ A, x.1 < z.1 := fun z hz => by
        obtain ⟨i, hi⟩ := List.mem_iff_getElem?.1 hz
        exact ha 0 (i + 1) x z (by omega) rfl (by simpa using hi)
      have hB : ∀ z ∈ B, y.1 < z.1 := fun z hz => by
        obtain ⟨i, hi⟩ := List.mem_iff_getElem?.1 hz
        exact hb 0 (i + 1) y z (by omega) rfl (by simpa using hi)
      have e : x = y := by
        rcases List.mem_cons.1 hx with e | hx'
        · exact e
        · rcases List.mem_cons.1 hy with e | hy'
          · exact e.symm
          · have h1 := hB x hx'; have h2 := hA y hy'; omega
      subst e
      congr 1
      refine ih (fun i j a b hij hia hjb => ha (i + 1) (j + 1) a b (by omega) (by simpa using hia) (by simpa using hjb)) (fun i j a b hij hia hjb => hb (i + 1) (j + 1) a b (by omega) (by simpa using hia) (by simpa using hjb)) (fun z => ?_) (by simpa using hl)
      constructor
      · intro hz
        rcases List.mem_cons.1 ((h z).1 (by simp [hz])) with e | hz'
        · subst e; have := hA z hz; omega
        · exact hz'
      · intro hz
        rcases List.mem_cons.1 ((h z).2 (by simp [hz])) with e | hz'
        · subst e; have := hB z hz; omega
        · exact hz'
theorem TieD.uniq {A B R : List (Int × Ent)} (h : TieD A R) (k : TieD B R) : A = B := rise_ext h.good.rise k.good.rise (fun x => (h.mem x).trans (k.mem x).symm) (h.len.trans k.len.symm)
theorem ins_end {w : World} {base m P c : Nat} {a : Option Addr} {O : List (Int × Ent)} {x : Int × Ent} (hP : plcI x.1 O = P) (hh : hasI x.1 O = false) (hm : m = O.length + 1) (ho : w.ownsRow base 77 7 (.slice a m c) m (fr (O.take P) ++ rowR x ++ fr (O.drop P))) :
    w.ownsRow base 77 7 (.slice a (putI x.1 x.2 O).length c) (putI x.1 x.2 O).length (fr (putI x.1 x.2 O)) := by
  have e1 := putI_len_new (v := x.2) hh
  have e2 : fr (putI x.1 x.2 O) = fr (O.take P) ++ rowR x ++ fr (O.drop P) := by
    unfold putI
    rw [hh, hP]
    simp [fr_append, fr]
  rw [e1, e2, ← hm]
  exact ho
theorem plcI_ge (q : Int) : ∀ (ls : List (Int × Ent)) (x : Int × Ent), ls[plcI q ls]? = some x → ¬ x.1 < q
  | [], x, h => by simp at h
  | y :: ls, x, h => by
    unfold plcI at h
    by_cases hy : y.1 < q
    · rw [if_pos hy, List.getElem?_cons_succ] at h
      exact plcI_ge q ls x h
    · rw [if_neg hy, List.getElem?_cons_zero] at h
      cases h
      exact hy
theorem row_cells2 {X : World} {g t : Nat} {cs : List Value} (hg : X.heap[g]? = some (.cells cs.toArray t (0, 0))) : ∀ jj u, cs[jj]? = some u → X.cell? ((⟨g, 0, none⟩ : Addr).add jj) = some u := fun jj u h => by
  rw [add_plainR, Nat.zero_add, cell_of_row _ _ _ _ _ _ hg]
  simpa using h
/-- The entries in order. -/
def SortP (w : World) (T : List (Int × Ent)) (e : Ending) (w' : World) : Prop := ∃ a c, e = .returned (.slice a T.length c) ∧ w'.ownsRow w.heap.size 77 7 (.slice a T.length c) T.length (fr T) ∧ Below w.heap.size w w'
end Go.Proofs.Ytgaoplbocjadaaa