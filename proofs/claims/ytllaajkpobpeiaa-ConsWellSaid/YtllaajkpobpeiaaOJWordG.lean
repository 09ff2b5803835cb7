/- What a Reader's small functions answer: a copy of bytes, the first error, what lacks. -/
import Derived.Test.YtllaajkpobpeiaaOJBase3
import Derived.Test.YtllaajkpobpeiaaOJWordD
namespace Go.Proofs.Ytllaajkpobpeiaa
open Go.RowKit
theorem own_lit (w : World) : (w.alloc (.cells #[] 5)).ownsRow w.heap.size 5 1 (.slice (some ⟨w.heap.size, 0, none⟩) 0 0) 0 (([] : List Int).map (Value.int .u8)) := World.ownsRow_lit w #[] 0 (Nat.le_refl _) (by simp [maxLen]) rfl

theorem clone_any (w : World) (A : Option Addr) (n c : Nat) (l : List Int) (h : Byt w w.heap.size A n c l) (hn : n ≤ 140737488351232) :
    Calls Try.prog 85 #[.slice A n c] w fun e w' => ∃ A' c', e = .returned (.slice A' n c') ∧ Byt w' w'.heap.size A' n c' l ∧ Below w.heap.size w w' ∧ ∀ b o, A' = some ⟨b, o, none⟩ → w.heap.size ≤ b := by
  cases A with
  | none =>
    have h0 : n = 0 := by
      rcases Nat.eq_zero_or_pos n with h0 | h0
      · exact h0
      · obtain ⟨b, off, e', _⟩ := h.cells h0
        cases e'
    subst h0
    obtain rfl := List.eq_nil_of_length_eq_zero h.len
    clear h
    have he := fun w : World => Lib.run_eql_slice_nil (P := Try.prog) w 43 5 none 0 c 0 0 Try.underlying43
    go_enter Try.func85, Try.ntmps85
    go_wp2
    go_ret
    exact ⟨_, _, rfl, Byt.nil_ _ _, Below.refl _ _, fun _ _ h => by cases h⟩
  | some ad =>
    have he := fun w : World => Lib.run_eql_slice_nil (P := Try.prog) w 43 5 (some ad) n c 0 0 Try.underlying43
    go_enter Try.func85, Try.ntmps85
    go_wp2_with (at_builtin; refine wpList_bytes rfl (.tmp 5) (.tmp 6) rfl Try.underlying43 byte_info rfl (l := []) (own_lit w) rfl (h.keep (B := w.heap.size) (fun b o hlt => ((Below.refl w.heap.size w).alloc (Nat.le_refl _) _).cell (p := ⟨b, o, none⟩) hlt)) (by omega) (by simp) ?_; intro v1 w1 hown1 hbel1)
    go_ret
    rw [List.nil_append] at hown1
    obtain ⟨A', c', rfl, hB, hA⟩ := Byt.of_own hown1 h.rng
    exact ⟨_, _, by rw [Nat.zero_add]; rfl, by rw [Nat.zero_add] at hB; exact hB, ((Below.refl _ _).alloc (Nat.le_refl _) _).trans hbel1, fun b o e => by
      rcases hA with ⟨h1, _⟩ | ⟨g, h1, h2⟩
      · rw [h1] at e; cases e
      · rw [h1] at e; cases e; exact h2⟩

section
variable {w w' : World} {g n c : Nat} {er : Int} {A : Option Addr}
end
theorem grown_set (w : World) (g i : Nat) (u : Value) : w.grownBy (w.setCell ⟨g, i, none⟩ u) (some g) :=
  ⟨rfl, rfl, rfl, by simp [World.setCell], fun k _ hne => Below.heap_setCell _ _ _ _ (fun e => hne (by rw [e]))⟩
theorem grown_trans {a b c : World} {row : Option Nat} (h : a.grownBy b row) (k : b.grownBy c row) : a.grownBy c row :=
  ⟨k.os.trans h.os, k.tape.trans h.tape, k.output.trans h.output, Nat.le_trans h.size k.size, fun i hi hne => (k.block i (Nat.lt_of_lt_of_le hi h.size) hne).trans (h.block i hi hne)⟩
theorem grown_below {a b : World} {row : Option Nat} (h : Below a.heap.size a b) : a.grownBy b row := ⟨h.os, h.tape, h.output, h.size, fun i hi _ => h.block i hi⟩
theorem grown_drewN {a b : World} {row : Option Nat} (h : a.grownBy b row) (n : Nat) : a.grownBy (b.drewN n) row := ⟨h.os, h.tape, h.output, h.size, h.block⟩

/-- The first error, behind a step that answered x. -/
def fe (er x : Int) : Int := if er = 0 then x else er
def lackE (n : Nat) (k : Int) : Int := if k < 0 then 2 else if (n : Int) < k then 5 else 0
end Go.Proofs.Ytllaajkpobpeiaa