/- What slices.Clone, All and the function that All hands back do. -/
import Derived.RangeFuncNested
import Derived.RangeFuncBound
import Derived.RangeFuncCalls
import Derived.RangeFuncLeaves
import Derived.RangeFuncWrites
import Derived.RangeFuncBox
import Derived.Shelf.Abstract
import Derived.Shelf.RegionOpen
import Derived.WalkKit
import Derived.OwnWalkIn
import Derived.TacticsInMore
import Derived.LoopNIn
import Derived.LoopIn
import Derived.Test.YtncnlbokipieaaaEEqf
namespace Go.Proofs.Ytncnlbokipieaaa
open Go.RowKit Go.Shelf
attribute [local go_sem] Oper.semAt_some

theorem Qs.made (w : World) (base e : Nat) (hb : base ≤ w.heap.size) : Qs (w.alloc (.cells #[] e)) base e (some ⟨w.heap.size, 0, none⟩) 0 0 [] :=
  ⟨rfl, by simp, Nat.le_refl _, by simp [maxLen], .inr ⟨_, 0, #[], rfl, hb, heap_alloc_new w _, by simp, fun j hj => absurd hj (by simp)⟩⟩
/-- What slices.Clone has made: nothing else has turned. -/
def Cloned (w : World) (n : Nat) (vs : List Value) (e : Ending) (w' : World) : Prop := ∃ A' c', e = .returned (.slice A' n c') ∧ Qs w' w.heap.size 3 A' n c' vs ∧ Below w.heap.size w w'
theorem qclone_any (w : World) (base n c : Nat) (vs : List Value) (A : Option Addr) (h : Qs w base 3 A n c vs) (hn : n ≤ 1000000) :
    Calls Try.prog 55 #[.slice A n c] w (Cloned w n vs) := by
  have heq := fun (w : World) (a : Option Addr) (l c : Nat) => Lib.run_eql_slice_nil (P := Try.prog) w 44 3 a l c 0 0 Try.underlying44
  rcases h.lies with ⟨rfl, hc0⟩ | ⟨b, off, cur, rfl, h1, h2, h3, h4⟩
  · subst hc0
    have hcap := h.cap
    obtain rfl : n = 0 := by omega
    obtain rfl := List.eq_nil_of_length_eq_zero h.len
    clear h
    go_enter Try.func55, Try.ntmps55
    go_wp2_with fail
    go_ret
    exact ⟨none, 0, rfl, Qs.nil_ _ _ _, Below.refl _ _⟩
  · have HH := Lib.hid h
    have hsr := Src.of_qs h
    have hbe : Below w.heap.size w (w.alloc (.cells #[] 3)) := (Below.refl _ _).alloc (Nat.le_refl _) _
    have hs2 := hsr.below hbe
    have HS := Lib.hid hs2
    have HB := Lib.hid hbe
    clear h h2 h4 hsr hs2 hbe
    go_enter Try.func55, Try.ntmps55
    go_wp2_with (refine wpList_append_q rfl (.tmp 5) (.tmp 6) 44 rfl Try.underlying44 info_el rfl rfl (Qs.made w w.heap.size 3 (Nat.le_refl _)) (by simp) rfl HS.out (by simp only [maxLen]; omega) (by omega) ?_; intro A6 c6 w6 hq6 hg6 hn6)
    go_ret
    rw [Nat.zero_add, List.nil_append] at hq6
    exact ⟨A6, c6, rfl, hq6, HB.out.grown hg6 (by simp) (fun k e => by simp [blk] at e; omega)⟩

/-- What a round keeps: all cells that were there, but for some blocks, and one that the world itself tells. -/
structure Kq (Fx : Nat → Prop) (tb : World → Option Nat) (W W' : World) : Prop where
  size : W.heap.size ≤ W'.heap.size
  cells : ∀ k cs t fr, W.heap[k]? = some (.cells cs t fr) → ¬ Fx k → tb W ≠ some k → W'.heap[k]? = W.heap[k]?
  next : tb W' = tb W ∨ ∃ b, tb W' = some b ∧ W.heap.size ≤ b
theorem kq_t {Fx : Nat → Prop} {tb : World → Option Nat} {A B C : World} (h : Kq Fx tb A B) (k : Kq Fx tb B C) : Kq Fx tb A C := by
  refine ⟨Nat.le_trans h.size k.size, fun i cs t fr hi hF ht => ?_, ?_⟩
  · have h1 := h.cells i cs t fr hi hF ht
    refine (k.cells i cs t fr (h1.trans hi) hF ?_).trans h1
    intro e
    rcases h.next with h2 | ⟨b, h2, h3⟩
    · exact ht (h2 ▸ e)
    · rw [h2] at e; cases e
      have := (Array.getElem?_eq_some_iff.1 hi).1
      omega
  · rcases k.next with h2 | ⟨b, h2, h3⟩
    · rw [h2]; exact h.next
    · exact .inr ⟨b, h2, Nat.le_trans h.size h3⟩
theorem Qs.kq {Fx : Nat → Prop} {tb : World → Option Nat} {w w' : World} {base e n c : Nat} {A : Option Addr} {vs : List Value} (h : Qs w base e A n c vs) (hk : Kq Fx tb w w') (hF : ∀ b, blk A = some b → ¬ Fx b) (ht : ∀ b, blk A = some b → tb w ≠ some b) : Qs w' base e A n c vs :=
  h.keep fun b hb => by
    rcases h.lies with ⟨rfl, _⟩ | ⟨b', off, cur, rfl, h1, h2, _⟩
    · cases hb
    · cases hb; exact hk.cells b' _ _ _ h2 (hF _ rfl) (ht _ rfl)

/-! ### What comes of a list, with the places -/
abbrev Elt := Nat × Int
def en (l : List Int) : List Elt := (List.range l.length).map fun i : Nat => (i, l.getD i 0)
theorem en_len (l : List Int) : (en l).length = l.length := by simp [en]
theorem en_get (l : List Int) {i : Nat} (h : i < l.length) : (en l)[i]? = some (i, l.getD i 0) := by simp [en, h, List.getD]
theorem en_take (l : List Int) {i : Nat} (h : i < l.length) : (en l).take i ++ [(i, l.getD i 0)] = (en l).take (i + 1) := by
  have hl : i < (en l).length := by rw [en_len]; exact h
  rw [List.take_succ_eq_append_getElem hl]
  have := en_get l h
  rw [List.getElem?_eq_getElem hl] at this
  rw [Option.some.inj this]
theorem en_mem {l : List Int} {x : Elt} (h : x ∈ en l) : x.1 < l.length ∧ x.2 = l.getD x.1 0 := by
  simp only [en, List.mem_map, List.mem_range] at h
  obtain ⟨i, hi, rfl⟩ := h
  exact ⟨hi, rfl⟩
theorem en_has {l : List Int} {i : Nat} (h : i < l.length) : (i, l.getD i 0) ∈ en l := by
  simp only [en, List.mem_map, List.mem_range]
  exact ⟨i, h, rfl⟩
end Go.Proofs.Ytncnlbokipieaaa