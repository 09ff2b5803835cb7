/- What a Reader's small functions answer: a copy of bytes, the first error, what lacks. -/
import Derived.Test.YtbbkobfibobfcaaKWordF
namespace Go.Proofs.Ytbbkobfibobfcaa
open Go.RowKit
theorem own_lit (w : World) : (w.alloc (.cells #[] 5)).ownsRow w.heap.size 5 1 (.slice (some ⟨w.heap.size, 0, none⟩) 0 0) 0 (([] : List Int).map (Value.int .u8)) := World.ownsRow_lit w #[] 0 (Nat.le_refl _) (by simp [maxLen]) rfl

theorem clone_any (w : World) (A : Option Addr) (n c : Nat) (l : List Int) (h : Byt w w.heap.size A n c l) (hn : n ≤ 140737488351232) :
    Calls Try.prog 53 #[.slice A n c] w fun e w' => ∃ A' c', e = .returned (.slice A' n c') ∧ Byt w' w'.heap.size A' n c' l ∧ Below w.heap.size w w' ∧ ∀ b o, A' = some ⟨b, o, none⟩ → w.heap.size ≤ b := by
  cases A with
  | none =>
    have h0 : n = 0 := by
      rcases Nat.eq_zero_or_pos n with h0 | h0
      · exact h0
      · obtain ⟨b, off, e', _⟩ := h.cells h0
        cases e'
    subst h0
    obtain rfl := List.eq_nil_of_length_eq_zero h.len
    clear h
    have he := fun w : World => Lib.run_eql_slice_nil (P := Try.prog) w 41 5 none 0 c 0 0 Try.underlying41
    go_enter Try.func53, Try.ntmps53
    go_wp2
    go_ret
    exact ⟨_, _, rfl, Byt.nil_ _ _, Below.refl _ _, fun _ _ h => by cases h⟩
  | some ad =>
    have he := fun w : World => Lib.run_eql_slice_nil (P := Try.prog) w 41 5 (some ad) n c 0 0 Try.underlying41
    go_enter Try.func53, Try.ntmps53
    go_wp2_with (at_builtin; refine wpList_bytes rfl (.tmp 5) (.tmp 6) rfl Try.underlying41 byte_info rfl (l := []) (own_lit w) rfl (h.keep (B := w.heap.size) (fun b o hlt => ((Below.refl w.heap.size w).alloc (Nat.le_refl _) _).cell (p := ⟨b, o, none⟩) hlt)) (by omega) (by simp) ?_; intro v1 w1 hown1 hbel1)
    go_ret
    rw [List.nil_append] at hown1
    obtain ⟨A', c', rfl, hB, hA⟩ := Byt.of_own hown1 h.rng
    exact ⟨_, _, by rw [Nat.zero_add]; rfl, by rw [Nat.zero_add] at hB; exact hB, ((Below.refl _ _).alloc (Nat.le_refl _) _).trans hbel1, fun b o e => by
      rcases hA with ⟨h1, _⟩ | ⟨g, h1, h2⟩
      · rw [h1] at e; cases e
      · rw [h1] at e; cases e; exact h2⟩

/-- A Reader in block g: its first error, and what is left. -/
def RdAt (w : World) (g : Nat) (er : Int) (A : Option Addr) (n c : Nat) : Prop := w.heap[g]? = some (.cells #[.int .i64 er, .slice A n c] 93 (0, 0))
section
variable {w w' : World} {g n c : Nat} {er : Int} {A : Option Addr}
theorem RdAt.lt (h : RdAt w g er A n c) : g < w.heap.size := (Array.getElem?_eq_some_iff.1 h).1
theorem RdAt.c0 (h : RdAt w g er A n c) : w.cell? ⟨g, 0, none⟩ = some (.int .i64 er) := by rw [cell_of_row _ _ _ _ _ _ h]; rfl
theorem RdAt.c1 (h : RdAt w g er A n c) : w.cell? ⟨g, 1, none⟩ = some (.slice A n c) := by rw [cell_of_row _ _ _ _ _ _ h]; rfl
theorem RdAt.f (h : RdAt w g er A n c) (i : Nat) : w.frozen? ⟨g, i, none⟩ = false := frozen_of_row _ _ _ _ _ h
theorem RdAt.below {B : Nat} (h : RdAt w g er A n c) (hb : Below B w w') (hg : g < B) : RdAt w' g er A n c := (hb.block g hg).trans h
theorem RdAt.set0 {x : Int} (h : RdAt w g er A n c) : RdAt (w.setCell ⟨g, 0, none⟩ (.int .i64 x)) g x A n c := by
  unfold RdAt at h ⊢
  simp [World.setCell, Array.getElem?_modify, h]
theorem RdAt.set1 {A2 : Option Addr} {n2 c2 : Nat} (h : RdAt w g er A n c) : RdAt (w.setCell ⟨g, 1, none⟩ (.slice A2 n2 c2)) g er A2 n2 c2 := by
  unfold RdAt at h ⊢
  simp [World.setCell, Array.getElem?_modify, h]
end
theorem grown_set (w : World) (g i : Nat) (u : Value) : w.grownBy (w.setCell ⟨g, i, none⟩ u) (some g) :=
  ⟨rfl, rfl, rfl, by simp [World.setCell], fun k _ hne => Below.heap_setCell _ _ _ _ (fun e => hne (by rw [e]))⟩
theorem grownw_trans {a b c : World} {row : Option Nat} (h : a.grownBy b row) (k : b.grownBy c row) : a.grownBy c row :=
  ⟨k.os.trans h.os, k.tape.trans h.tape, k.output.trans h.output, Nat.le_trans h.size k.size, fun i hi hne => (k.block i (Nat.lt_of_lt_of_le hi h.size) hne).trans (h.block i hi hne)⟩
theorem grownw_below {a b : World} {row : Option Nat} (h : Below a.heap.size a b) : a.grownBy b row := ⟨h.os, h.tape, h.output, h.size, fun i hi _ => h.block i hi⟩
theorem grown_drewN {a b : World} {row : Option Nat} (h : a.grownBy b row) (n : Nat) : a.grownBy (b.drewN n) row := ⟨h.os, h.tape, h.output, h.size, h.block⟩

theorem new_any (w : World) (A : Option Addr) (n c : Nat) (l : List Int) (h : Byt w w.heap.size A n c l) (hn : n ≤ 140737488351232) :
    Calls Try.prog 38 #[.slice A n c] w fun e w' => ∃ g A' c', e = .returned (.pointer (some ⟨g, 0, none⟩)) ∧ w.heap.size ≤ g ∧ RdAt w' g 0 A' n c' ∧ Byt w' g A' n c' l ∧ Below w.heap.size w w' ∧ ∀ b o, A' = some ⟨b, o, none⟩ → w.heap.size ≤ b := by
  go_enter Try.func38, Try.ntmps38
  go_wp2_with fail
  refine (clone_any _ _ _ _ _ h hn).mono ?_
  rintro e w1 ⟨A1, c1, rfl, hB, hb, hA⟩
  go_wp2
  go_ret
  exact ⟨w1.heap.size, A1, c1, rfl, hb.size, heap_alloc_new w1 _, hB.below ((Below.refl _ _).alloc (Nat.le_refl _) _), hb.alloc hb.size _, hA⟩

/-- The first error, behind a step that answered x. -/
def fe (er x : Int) : Int := if er = 0 then x else er
theorem fails_rd (w : World) (g : Nat) (er x : Int) (A : Option Addr) (n c : Nat) (h : RdAt w g er A n c) :
    Calls Try.prog 48 #[.pointer (some ⟨g, 0, none⟩), .int .i64 x] w fun e w' => e = .returned (.bool (decide (¬ fe er x = 0))) ∧ RdAt w' g (fe er x) A n c ∧ w.grownBy w' (some g) := by
  have c0 := h.c0
  have f0 := h.f 0
  by_cases h0 : er = 0
  · have e1 : fe er x = x := by unfold fe; rw [if_pos h0]
    subst h0
    have hs := h.set0 (x := x)
    have cs := hs.c0
    rw [e1]
    have HS := Lib.hid hs
    clear h hs e1
    go_enter Try.func48, Try.ntmps48
    go_wp2
    go_ret
    refine ⟨ret_bool ?_, HS.out, grown_set _ _ _ _⟩
    rw [Bool.eq_iff_iff]; simp
  · have e1 : fe er x = er := by unfold fe; rw [if_neg h0]
    have hd : (er == 0) = false := by simp [h0]
    have hd2 : (er != 0) = true := by simp [h0]
    rw [e1]
    have H0 := Lib.hid h0
    have HH := Lib.hid h
    clear e1 h0 h
    go_enter Try.func48, Try.ntmps48
    go_wp2
    go_ret
    exact ⟨ret_bool (decide_eq_true H0.out).symm, HH.out, World.grownBy.refl _ _⟩
theorem told_any (w : World) (g : Nat) (er : Int) (hc : w.cell? ⟨g, 0, none⟩ = some (.int .i64 er)) : Calls Try.prog 54 #[.pointer (some ⟨g, 0, none⟩)] w fun e w' => e = .returned (.int .i64 er) ∧ w = w' := by
  go_enter Try.func54, Try.ntmps54
  go_wp2
  go_ret
  exact ⟨rfl, rfl⟩
def lackE (n : Nat) (k : Int) : Int := if k < 0 then 2 else if (n : Int) < k then 5 else 0
theorem lacks_any (w : World) (g : Nat) (er k : Int) (A : Option Addr) (n c : Nat) (h : RdAt w g er A n c) : Calls Try.prog 55 #[.pointer (some ⟨g, 0, none⟩), .int .i64 k] w fun e w' => e = .returned (.int .i64 (lackE n k)) ∧ w = w' := by
  have c1 := h.c1
  by_cases h1 : k < 0
  · have e1 : lackE n k = 2 := by unfold lackE; rw [if_pos h1]
    rw [e1]
    clear e1 h
    go_enter Try.func55, Try.ntmps55
    go_wp2
    go_ret
    exact ⟨rfl, rfl⟩
  · by_cases h2 : (n : Int) < k
    · have e1 : lackE n k = 5 := by unfold lackE; rw [if_neg h1, if_pos h2]
      rw [e1]
      clear e1 h
      go_enter Try.func55, Try.ntmps55
      go_wp2
      go_ret
      exact ⟨rfl, rfl⟩
    · have e1 : lackE n k = 0 := by unfold lackE; rw [if_neg h1, if_neg h2]
      rw [e1]
      clear e1 h
      go_enter Try.func55, Try.ntmps55
      go_wp2
      go_ret
      exact ⟨rfl, rfl⟩
end Go.Proofs.Ytbbkobfibobfcaa