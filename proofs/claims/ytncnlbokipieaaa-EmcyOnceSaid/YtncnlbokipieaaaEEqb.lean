/- Queues of ints as they lie; what New, Len, Lost, Room and Peek answer. -/
import Derived.Test.YtncnlbokipieaaaEEqa
import Derived.Test.YtncnlbokipieaaaProg
import Derived.IntWalk
import Derived.Deep.RegionHeld3
import Derived.Deep.RegionLaw
namespace Go.Proofs.Ytncnlbokipieaaa
open Go.RowKit
/-- Block g is a queue. -/
structure Que (w : World) (base g : Nat) (lim : Int) (vs : List Value) (lost : Int) (A : Option Addr) (n c : Nat) : Prop where
  box : w.heap[g]? = some (.cells #[.int .i64 lim, .slice A n c, .int .i64 lost] 105 (0, 0))
  row : Qs w base 3 A n c vs
  lims : 0 ≤ lim ∧ lim ≤ 65536
  fits : (n : Int) ≤ lim
  isnt : blk A ≠ some g
section
variable {w w' : World} {base g n c : Nat} {lim lost : Int} {vs : List Value} {A : Option Addr}
theorem Que.lt (h : Que w base g lim vs lost A n c) : g < w.heap.size := (Array.getElem?_eq_some_iff.1 h.box).1
theorem Que.cells (h : Que w base g lim vs lost A n c) : w.cell? ⟨g, 0, none⟩ = some (.int .i64 lim) ∧ w.cell? ⟨g, 1, none⟩ = some (.slice A n c) ∧ w.cell? ⟨g, 2, none⟩ = some (.int .i64 lost) := by
  refine ⟨?_, ?_, ?_⟩ <;> (rw [cell_of_row _ _ _ _ _ _ h.box]; rfl)
theorem Que.frozen (h : Que w base g lim vs lost A n c) (i : Nat) : w.frozen? ⟨g, i, none⟩ = false := frozen_of_row _ _ _ _ _ h.box
theorem Que.keep (h : Que w base g lim vs lost A n c) (hg : w'.heap[g]? = w.heap[g]?) (hk : ∀ b, blk A = some b → w'.heap[b]? = w.heap[b]?) : Que w' base g lim vs lost A n c :=
  ⟨hg.trans h.box, h.row.keep hk, h.lims, h.fits, h.isnt⟩
theorem Que.less {base' : Nat} (h : Que w base g lim vs lost A n c) (hb : base' ≤ base) : Que w base' g lim vs lost A n c := ⟨h.box, h.row.less hb, h.lims, h.fits, h.isnt⟩
theorem Que.below (h : Que w base g lim vs lost A n c) (hb : Below w.heap.size w w') : Que w' base g lim vs lost A n c :=
  h.keep (hb.block g h.lt) fun b hb' => hb.block b (h.row.lt hb').2
end
/-- The limit of a queue that was asked for. -/
def clampL (k : Int) : Int := if k < 0 then 0 else if 65536 < k then 65536 else k
theorem clampL_in (k : Int) : 0 ≤ clampL k ∧ clampL k ≤ 65536 := by unfold clampL; split <;> (try split) <;> omega
theorem qnew_any (k : Int) (w : World) (hk : -9223372036854775808 ≤ k ∧ k ≤ 9223372036854775807) :
    Calls Try.prog 35 #[.int .i64 k] w fun e w' => e = .returned (.pointer (some ⟨w.heap.size, 0, none⟩)) ∧ Que w' (w.heap.size + 1) w.heap.size (clampL k) [] 0 none 0 0 ∧ w' = w.alloc (.cells #[.int .i64 (clampL k), .slice none 0 0, .int .i64 0] 105) := by
  have hq : ∀ L, 0 ≤ L ∧ L ≤ 65536 → Que (w.alloc (.cells #[.int .i64 L, .slice none 0 0, .int .i64 0] 105)) (w.heap.size + 1) w.heap.size L [] 0 none 0 0 := fun L h => ⟨heap_alloc_new w _, Qs.nil_ _ _ _, h, by omega, by simp [blk]⟩
  have HQ := Lib.hid hq
  clear hq
  by_cases h1 : k < 0
  · have e : clampL k = 0 := by unfold clampL; rw [if_pos h1]
    rw [e]
    have h2 : ¬ (0 < k) := by omega
    have h3 : max k 0 = 0 := by omega
    clear e
    go_enter Try.func35, Try.ntmps35
    go_wp2_with fail
    go_ret
    exact ⟨rfl, HQ.out _ (by omega), rfl⟩
  · by_cases h2 : 65536 < k
    · have e : clampL k = 65536 := by unfold clampL; rw [if_neg h1, if_pos h2]
      rw [e]
      have h3 : max k 0 = k := by omega
      have h4 : min k 65536 = 65536 := by omega
      clear e
      go_enter Try.func35, Try.ntmps35
      go_wp2_with fail
      go_ret
      exact ⟨rfl, HQ.out _ (by omega), rfl⟩
    · have e : clampL k = k := by unfold clampL; rw [if_neg h1, if_neg h2]
      rw [e]
      have h3 : max k 0 = k := by omega
      have h4 : min k 65536 = k := by omega
      clear e
      go_enter Try.func35, Try.ntmps35
      go_wp2_with fail
      go_ret
      exact ⟨rfl, HQ.out _ (by omega), rfl⟩

theorem qlen_any (w : World) (g base n c : Nat) (lim lost : Int) (vs : List Value) (A : Option Addr) (h : Que w base g lim vs lost A n c) :
    Calls Try.prog 63 #[.pointer (some ⟨g, 0, none⟩)] w fun e w' => e = .returned (.int .i64 (n : Nat)) ∧ w = w' := by
  obtain ⟨_, c1, _⟩ := h.cells
  have hm := h.row.max
  have hc := h.row.cap
  simp only [maxLen] at hm
  go_enter Try.func63, Try.ntmps63
  go_wp2_with fail
  go_ret
  exact ⟨rfl, rfl⟩

theorem qroom_any (w : World) (g base n c : Nat) (lim lost : Int) (vs : List Value) (A : Option Addr) (h : Que w base g lim vs lost A n c) :
    Calls Try.prog 51 #[.pointer (some ⟨g, 0, none⟩)] w fun e w' => e = .returned (.int .i64 (lim - n)) ∧ ∃ k, w' = w.drewN k := by
  obtain ⟨c0, c1, _⟩ := h.cells
  have hm := h.row.max
  have hc := h.row.cap
  obtain ⟨hl0, hl1⟩ := h.lims
  have hf := h.fits
  have HH := Lib.hid h
  clear h
  go_enter Try.func51, Try.ntmps51
  go_wp2_with fail
  go_quiet (fail)
  go_wp2_with fail
  go_ret
  exact ⟨rfl, _, rfl⟩

theorem qpeek_none (w : World) (g base c : Nat) (lim lost : Int) (A : Option Addr) (h : Que w base g lim [] lost A 0 c) :
    Calls Try.prog 60 #[.pointer (some ⟨g, 0, none⟩)] w fun e w' => e = .returned (.tuple #[.int .i64 0, .bool false]) ∧ w = w' := by
  have hl := qlen_any w g base 0 c lim lost [] A h
  clear h
  go_enter Try.func60, Try.ntmps60
  go_wp2_with (go_at_call 63; refine hl.mono ?_; rintro e w' ⟨rfl, rfl⟩)
  go_ret2
  exact ⟨rfl, rfl⟩

theorem qpeek_some (w : World) (g base n c : Nat) (lim lost : Int) (v : Value) (vs : List Value) (A : Option Addr) (h : Que w base g lim (v :: vs) lost A (n + 1) c) :
    Calls Try.prog 60 #[.pointer (some ⟨g, 0, none⟩)] w fun e w' => e = .returned (.tuple #[v, .bool true]) ∧ w = w' := by
  have hl := qlen_any w g base (n + 1) c lim lost _ A h
  obtain ⟨_, c1, _⟩ := h.cells
  have hm := h.row.max
  have hc := h.row.cap
  simp only [maxLen] at hm
  obtain ⟨b, off, rfl⟩ := h.row.addr (by omega)
  have cv := h.row.cell rfl (j := 0) (by omega)
  simp only [Nat.add_zero, List.getElem?_cons_zero] at cv
  have h0 : (((n + 1 : Nat) : Int) == 0) = false := by simp; omega
  clear h
  go_enter Try.func60, Try.ntmps60
  go_wp2_with (go_at_call 63; refine hl.mono ?_; rintro e w' ⟨rfl, rfl⟩)
  go_ret2
  exact ⟨rfl, rfl⟩
end Go.Proofs.Ytncnlbokipieaaa