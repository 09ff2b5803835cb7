/- Names and their numbers; dictionaries as they lie; New, Len, Changes, get. -/
import Derived.Test.YtgaoplbocjadaaaYDg
import Derived.Test.YtgaoplbocjadaaaYDVg
import Derived.Laws.Rows
namespace Go.Proofs.Ytgaoplbocjadaaa
open Go.RowKit
set_option linter.unusedSimpArgs false
set_option linter.unusedVariables false
/-- A name's number, and 0 of what is none. -/
def okN (i s : Int) : Bool := decide (1 ≤ i ∧ i ≤ 65535 ∧ 0 ≤ s ∧ s ≤ 255)
def numI (i s : Int) : Int := if 1 ≤ i ∧ i ≤ 65535 ∧ 0 ≤ s ∧ s ≤ 255 then i * 256 + s else 0
theorem numI_yes {i s : Int} (h : 1 ≤ i ∧ i ≤ 65535 ∧ 0 ≤ s ∧ s ≤ 255) : numI i s = i * 256 + s := if_pos h
theorem numI_no {i s : Int} (h : ¬ (1 ≤ i ∧ i ≤ 65535 ∧ 0 ≤ s ∧ s ≤ 255)) : numI i s = 0 := if_neg h
theorem numI_zero (i s : Int) : (numI i s == 0) = !okN i s := by
  by_cases h : 1 ≤ i ∧ i ≤ 65535 ∧ 0 ≤ s ∧ s ≤ 255
  · rw [numI_yes h]
    have : okN i s = true := decide_eq_true h
    rw [this]
    simp; omega
  · rw [numI_no h]
    have : okN i s = false := decide_eq_false h
    rw [this]; rfl
def Key2 (w : World) (g : Nat) (i s : Int) : Prop := w.heap[g]? = some (.cells #[.int .i64 i, .int .i64 s] 24 (0, 0))
theorem Key2.cells {w : World} {g : Nat} {i s : Int} (h : Key2 w g i s) : w.cell? ⟨g, 0, none⟩ = some (.int .i64 i) ∧ w.cell? ⟨g, 1, none⟩ = some (.int .i64 s) := ⟨by rw [cell_of_row _ _ _ _ _ _ h]; rfl, by rw [cell_of_row _ _ _ _ _ _ h]; rfl⟩
theorem number_any (i s : Int) (w : World) : Calls Try.prog 91 #[.agg #[.int .i64 i, .int .i64 s]] w fun e w' => e = .returned (.int .i64 (numI i s)) ∧ Below w.heap.size w w' := by
  have hb : Below w.heap.size w (w.alloc (.cells #[.int .i64 i, .int .i64 s] 24)) := (Below.refl _ _).alloc (Nat.le_refl _) _
  have hk : Key2 (w.alloc (.cells #[.int .i64 i, .int .i64 s] 24)) w.heap.size i s := heap_alloc_new w _
  obtain ⟨c0, c1⟩ := hk.cells
  by_cases h1 : i < 1
  · rw [numI_no (by omega)]
    clear hk
    go_enter Try.func91, Try.ntmps91
    go_wp2_with fail
    go_ret
    exact ⟨rfl, hb⟩
  by_cases h2 : 65535 < i
  · rw [numI_no (by omega)]
    clear hk
    go_enter Try.func91, Try.ntmps91
    go_wp2_with fail
    go_ret
    exact ⟨rfl, hb⟩
  by_cases h3 : s < 0
  · rw [numI_no (by omega)]
    clear hk
    go_enter Try.func91, Try.ntmps91
    go_wp2_with fail
    go_ret
    exact ⟨rfl, hb⟩
  by_cases h4 : 256 ≤ s
  · rw [numI_no (by omega)]
    clear hk
    go_enter Try.func91, Try.ntmps91
    go_wp2_with fail
    go_ret
    exact ⟨rfl, hb⟩
  · rw [numI_yes (by omega)]
    clear hk
    go_enter Try.func91, Try.ntmps91
    go_wp2_with fail
    go_ret
    exact ⟨by go_num, hb⟩
theorem info_key : (Try.prog.info? 24).map (·.size) = some 2 := by kernel_rfl
theorem one_key (a b : Int) : (#[.int .i64 a, .int .i64 b] : Array Value).all (·.oneCell') = true := by simp [Value.oneCell']
/-- The name of a number, as it is reckoned. -/
def aN (n : Int) : Int := wrap64 (n.tdiv 256)
def bN (n : Int) : Int := n.tmod 256
theorem aN_eq {n : Int} (h0 : 0 ≤ n) (h1 : n ≤ 16777215) : aN n = n / 256 := by
  unfold aN
  rw [Int.tdiv_eq_ediv_of_nonneg h0]
  unfold wrap64
  omega
theorem bN_eq {n : Int} (h0 : 0 ≤ n) : bN n = n % 256 := Int.tmod_eq_emod_of_nonneg h0
/-! ### Dictionaries as they lie -/
def okE (x : Int × Ent) : Prop := (256 ≤ x.1 ∧ x.1 ≤ 16777215) ∧ fitsA x.2.k x.2.a x.2.lo x.2.hi x.2.b = 0 ∧ (∀ y ∈ x.2.b, 0 ≤ y ∧ y ≤ 255) ∧ x.2.b.length ≤ 64
structure Good (T : List (Int × Ent)) : Prop where
  rise : Rise T
  few : T.length ≤ 600
  ok : ∀ x ∈ T, okE x
structure DiI (w : World) (base g s : Nat) (T : List (Int × Ent)) (ch : Int) (v : Value) : Prop where
  box : w.heap[g]? = some (.cells #[.pointer (some ⟨s, 0, none⟩), .int .i64 ch] 134 (0, 0))
  sh : Sh 184 202 w base s T.length (fe T) v
section
variable {w w' : World} {base g s : Nat} {T : List (Int × Ent)} {ch : Int} {v : Value}
theorem DiI.lt (h : DiI w base g s T ch v) : g < w.heap.size := (Array.getElem?_eq_some_iff.1 h.box).1
theorem DiI.cells (h : DiI w base g s T ch v) : w.cell? ⟨g, 0, none⟩ = some (.pointer (some ⟨s, 0, none⟩)) ∧ w.cell? ⟨g, 1, none⟩ = some (.int .i64 ch) := ⟨by rw [cell_of_row _ _ _ _ _ _ h.box]; rfl, by rw [cell_of_row _ _ _ _ _ _ h.box]; rfl⟩
theorem DiI.below (h : DiI w base g s T ch v) (hb : Below w.heap.size w w') : DiI w' base g s T ch v := ⟨(hb.block g h.lt).trans h.box, h.sh.below hb⟩
theorem DiI.gs (h : DiI w base g s T ch v) : g ≠ s := fun e => by have := h.box; rw [e, h.sh.box] at this; cases this
theorem DiI.vg (h : DiI w base g s T ch v) : v.ownBlock ≠ some g := fun e => by
  rcases h.sh.row.2 with ⟨rfl, _⟩ | ⟨b, cap, cur, rfl, _, hb, _⟩
  · cases e
  · cases e; rw [h.box] at hb; cases hb
end
def EntAt (w : World) (g : Nat) (k a lo hi : Int) (S : ByteArray) : Prop := w.heap[g]? = some (.cells #[.int .i64 k, .int .i64 a, .int .i64 lo, .int .i64 hi, .string S] 132 (0, 0))
theorem EntAt.lt {w : World} {g : Nat} {k a lo hi : Int} {S : ByteArray} (h : EntAt w g k a lo hi S) : g < w.heap.size := (Array.getElem?_eq_some_iff.1 h).1
theorem EntAt.below {w w' : World} {g : Nat} {k a lo hi : Int} {S : ByteArray} (h : EntAt w g k a lo hi S) (hb : Below w.heap.size w w') : EntAt w' g k a lo hi S := (hb.block g h.lt).trans h
theorem EntAt.cells {w : World} {g : Nat} {k a lo hi : Int} {S : ByteArray} (h : EntAt w g k a lo hi S) : w.cell? ⟨g, 0, none⟩ = some (.int .i64 k) ∧ w.cell? ⟨g, 1, none⟩ = some (.int .i64 a) ∧ w.cell? ⟨g, 2, none⟩ = some (.int .i64 lo) ∧ w.cell? ⟨g, 3, none⟩ = some (.int .i64 hi) ∧ w.cell? ⟨g, 4, none⟩ = some (.string S) := by
  refine ⟨?_, ?_, ?_, ?_, ?_⟩ <;> (rw [cell_of_row _ _ _ _ _ _ h]; rfl)
theorem EntAt.froz {w : World} {g : Nat} {k a lo hi : Int} {S : ByteArray} (h : EntAt w g k a lo hi S) : w.frozen? ⟨g, 0, none⟩ = false ∧ w.frozen? ⟨g, 1, none⟩ = false ∧ w.frozen? ⟨g, 2, none⟩ = false ∧ w.frozen? ⟨g, 3, none⟩ = false ∧ w.frozen? ⟨g, 4, none⟩ = false :=
  ⟨frozen_of_row _ _ _ _ _ h, frozen_of_row _ _ _ _ _ h, frozen_of_row _ _ _ _ _ h, frozen_of_row _ _ _ _ _ h, frozen_of_row _ _ _ _ _ h⟩
theorem EntAt.five {w : World} {g : Nat} {k a lo hi k' a' lo' hi' : Int} {S S' : ByteArray} (h : EntAt w g k a lo hi S) : EntAt (((((w.setCell ⟨g, 0, none⟩ (.int .i64 k')).setCell ⟨g, 1, none⟩ (.int .i64 a')).setCell ⟨g, 2, none⟩ (.int .i64 lo')).setCell ⟨g, 3, none⟩ (.int .i64 hi')).setCell ⟨g, 4, none⟩ (.string S')) g k' a' lo' hi' S' := by
  have h' : w.heap[g]? = _ := h
  simp [EntAt, World.setCell, Array.getElem?_modify, h']
theorem five_below {B g : Nat} {w0 w : World} {a b c d e : Value} (h : Below B w0 w) (hg : B ≤ g) : Below B w0 (((((w.setCell ⟨g, 0, none⟩ a).setCell ⟨g, 1, none⟩ b).setCell ⟨g, 2, none⟩ c).setCell ⟨g, 3, none⟩ d).setCell ⟨g, 4, none⟩ e) :=
  ((((h.setCell (p := ⟨g, 0, none⟩) hg _).setCell (p := ⟨g, 1, none⟩) hg _).setCell (p := ⟨g, 2, none⟩) hg _).setCell (p := ⟨g, 3, none⟩) hg _).setCell (p := ⟨g, 4, none⟩) hg _
theorem Key2.below {w w' : World} {g : Nat} {i s : Int} (h : Key2 w g i s) (hb : Below w.heap.size w w') : Key2 w' g i s := (hb.block g (Array.getElem?_eq_some_iff.1 h).1).trans h
end Go.Proofs.Ytgaoplbocjadaaa