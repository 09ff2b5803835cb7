/- A watch in memory: its three tables, and what each call of theirs leaves. -/
import Derived.Test.YtiidgcgamcgipaaBm
import Derived.Test.YtiidgcgamcgipaaBUc
namespace Go.Proofs.Ytiidgcgamcgipaa
open Go.RowKit
set_option linter.unusedSimpArgs false
set_option linter.unusedVariables false

/-- All blocks of other types than a watch's tables' six are as they were. -/
def OthW (w w' : World) : Prop := ∀ td, td ≠ 95 → td ≠ 103 → td ≠ 98 → td ≠ 111 → td ≠ 106 → td ≠ 109 → KpT td w w'
theorem OthW.trans {a b c : World} (h : OthW a b) (k : OthW b c) : OthW a c := fun td h1 h2 h3 h4 h5 h6 => kpt_t (h td h1 h2 h3 h4 h5 h6) (k td h1 h2 h3 h4 h5 h6)
theorem othW_below {w w' : World} (h : Below w.heap.size w w') : OthW w w' := fun _ _ _ _ _ _ _ => kpt_below h
structure WaI (w : World) (base g a b c s : Nat) (T M L K : List (Int × Int)) (v1 v2 v3 v4 : Value) : Prop where
  box : w.heap[g]? = some (.cells #[.pointer (some ⟨a, 0, none⟩), .pointer (some ⟨b, 0, none⟩), .pointer (some ⟨c, 0, none⟩)] 86 (0, 0))
  ti : Sh 103 111 w base a T.length (fl eI eI T) v1
  mo : Sh 106 109 w base b M.length (fl eI eI M) v2
  tm : TmI w base c s L K v3 v4
  nas : a ≠ s
  o14 : ∀ k, v1.ownBlock = some k → v4.ownBlock ≠ some k
theorem sh_kpt {tb tr : Nat} {w w' : World} {base g n : Nat} {cs : List Value} {v : Value} (h : Sh tb tr w base g n cs v) (h1 : KpT tb w w') (h2 : KpT tr w w') : Sh tb tr w' base g n cs v :=
  ⟨(h1.2 _ _ _ h.box).trans h.box, kpt_own h2 h.row, h.isnt⟩
/-- A table, when blocks that are not its own have changed. -/
theorem sh_apart {tb tr : Nat} {w w' : World} {base g n : Nat} {cs : List Value} {v : Value} (h : Sh tb tr w base g n cs v) (hs : w.heap.size ≤ w'.heap.size) (h1 : w'.heap[g]? = w.heap[g]?) (h2 : ∀ k, v.ownBlock = some k → w'.heap[k]? = w.heap[k]?) : Sh tb tr w' base g n cs v := by
  refine ⟨h1.trans h.box, ?_, h.isnt⟩
  obtain ⟨p, q⟩ := h.row
  refine ⟨p, ?_⟩
  rcases q with hn | ⟨k, cap, cur, rfl, hb, hg, rest⟩
  · exact .inl hn
  · exact .inr ⟨k, cap, cur, rfl, hb, (h2 k rfl).trans hg, rest⟩
section
variable {w w' : World} {base g a b c s : Nat} {T M L K : List (Int × Int)} {v1 v2 v3 v4 : Value}
theorem WaI.lt (h : WaI w base g a b c s T M L K v1 v2 v3 v4) : g < w.heap.size := (Array.getElem?_eq_some_iff.1 h.box).1
theorem WaI.cells (h : WaI w base g a b c s T M L K v1 v2 v3 v4) : w.cell? ⟨g, 0, none⟩ = some (.pointer (some ⟨a, 0, none⟩)) ∧ w.cell? ⟨g, 1, none⟩ = some (.pointer (some ⟨b, 0, none⟩)) ∧ w.cell? ⟨g, 2, none⟩ = some (.pointer (some ⟨c, 0, none⟩)) :=
  ⟨by rw [cell_of_row _ _ _ _ _ _ h.box]; rfl, by rw [cell_of_row _ _ _ _ _ _ h.box]; rfl, by rw [cell_of_row _ _ _ _ _ _ h.box]; rfl⟩
theorem WaI.below (h : WaI w base g a b c s T M L K v1 v2 v3 v4) (hb : Below w.heap.size w w') : WaI w' base g a b c s T M L K v1 v2 v3 v4 :=
  ⟨(hb.block g h.lt).trans h.box, h.ti.below hb, h.mo.below hb, h.tm.below hb, h.nas, h.o14⟩
/-- The table of modes has changed. -/
theorem WaI.modes {M' : List (Int × Int)} {v2' : Value} (h : WaI w base g a b c s T M L K v1 v2 v3 v4) (hs : Sh 106 109 w' base b M'.length (fl eI eI M') v2') (ht : Tch w w' b v2) :
    WaI w' base g a b c s T M' L K v1 v2' v3 v4 ∧ OthW w w' := by
  have hk : ∀ td, 106 ≠ td → 109 ≠ td → KpT td w w' := fun td h1 h2 => kpt_tch h.mo.box h.mo.row ht h1 h2
  exact ⟨⟨((hk _ (by decide) (by decide)).2 _ _ _ h.box).trans h.box, sh_kpt h.ti (hk _ (by decide) (by decide)) (hk _ (by decide) (by decide)), hs,
    h.tm.kpt (hk _ (by decide) (by decide)) (hk _ (by decide) (by decide)) (hk _ (by decide) (by decide)) (hk _ (by decide) (by decide)), h.nas, h.o14⟩,
    fun td _ _ _ _ h5 h6 => hk td (Ne.symm h5) (Ne.symm h6)⟩
/-- The timers have changed. -/
theorem WaI.timers {L' K' : List (Int × Int)} (h : WaI w base g a b c s T M L K v1 v2 v3 v4) (hg : GoI w base c s L' K' v3 v4 w') :
    (∃ v3' v4', WaI w' base g a b c s T M L' K' v1 v2 v3' v4') ∧ OthW w w' := by
  obtain ⟨v3', v4', ht, hx, hy, hc⟩ := hg
  have hk := hc.oth h.tm
  have hag : a ≠ c := fun e => by have h1 := h.ti.box; rw [e, h.tm.box] at h1; cases h1
  refine ⟨⟨v3', v4', ((hk _ (by decide) (by decide) (by decide) (by decide)).2 _ _ _ h.box).trans h.box, sh_apart h.ti hc.size ?_ ?_, sh_kpt h.mo (hk _ (by decide) (by decide) (by decide) (by decide)) (hk _ (by decide) (by decide) (by decide) (by decide)), ht, h.nas, ?_⟩, fun td h1 h2 h3 h4 _ _ => hk td h1 h2 h3 h4⟩
  · exact hc.block a h.ti.lt hag h.nas (own_ne h.tm.row h.ti.box (by decide)) (own_ne h.tm.sh.row h.ti.box (by decide))
  · intro k e
    obtain ⟨cs, hcs⟩ := own_ty h.ti.row e
    refine hc.block k (Array.getElem?_eq_some_iff.1 hcs).1 ?_ ?_ (own_ne h.tm.row hcs (by decide)) (h.o14 k e)
    · intro e'; subst e'; have h1 := h.tm.box; rw [hcs] at h1; cases h1
    · intro e'; subst e'; have h1 := h.tm.sh.box; rw [hcs] at h1; cases h1
  · intro k e
    obtain ⟨cs, hcs⟩ := own_ty h.ti.row e
    exact hy.ne (Array.getElem?_eq_some_iff.1 hcs).1 (h.o14 k e)
/-- The table of times has changed. -/
theorem WaI.times {T' : List (Int × Int)} {v1' : Value} (h : WaI w base g a b c s T M L K v1 v2 v3 v4) (hs : Sh 103 111 w' base a T'.length (fl eI eI T') v1') (hn : v1'.ownBlock = v1.ownBlock ∨ ∃ k, v1'.ownBlock = some k ∧ w.heap.size ≤ k) (ht : Tch w w' a v1) :
    WaI w' base g a b c s T' M L K v1' v2 v3 v4 ∧ OthW w w' := by
  have hk : ∀ td, 103 ≠ td → 111 ≠ td → KpT td w w' := fun td h1 h2 => kpt_tch h.ti.box h.ti.row ht h1 h2
  have hk1 := hk 95 (by decide) (by decide)
  have hk2 := hk 98 (by decide) (by decide)
  refine ⟨⟨((hk _ (by decide) (by decide)).2 _ _ _ h.box).trans h.box, hs, sh_kpt h.mo (hk _ (by decide) (by decide)) (hk _ (by decide) (by decide)), ⟨(hk1.2 _ _ _ h.tm.box).trans h.tm.box, kpt_own hk2 h.tm.row, sh_apart h.tm.sh ht.size ?_ ?_⟩, h.nas, ?_⟩, fun td _ h2 _ h4 _ _ => hk td (Ne.symm h2) (Ne.symm h4)⟩
  · exact ht.block s h.tm.sh.lt (Ne.symm h.nas) (own_ne h.ti.row h.tm.sh.box (by decide))
  · intro k e
    obtain ⟨cs, hcs⟩ := own_ty h.tm.sh.row e
    refine ht.block k (Array.getElem?_eq_some_iff.1 hcs).1 ?_ (fun e2 => h.o14 k e2 e)
    intro e'; subst e'; have h1 := h.ti.box; rw [hcs] at h1; cases h1
  · intro k e e4
    rcases hn with h1 | ⟨k', h1, h2⟩
    · exact h.o14 k (h1 ▸ e) e4
    · rw [h1] at e; cases e
      obtain ⟨cs, hcs⟩ := own_ty h.tm.sh.row e4
      have := (Array.getElem?_eq_some_iff.1 hcs).1
      omega
end
/-- A watch at g, in the world of a statement that began at w0. -/
structure WaAt (w0 : World) (g : Nat) (T M R : List (Int × Int)) (wr : World) : Prop where
  is : ∃ a b c s L K v1 v2 v3 v4, WaI wr w0.heap.size g a b c s T M L K v1 v2 v3 v4 ∧ TieT L K R ∧ w0.heap.size ≤ a ∧ w0.heap.size ≤ b ∧ w0.heap.size ≤ c ∧ w0.heap.size ≤ s
  ge : w0.heap.size ≤ g
  bel : Below w0.heap.size w0 wr
  rt : Rise T
  rm : Rise M
end Go.Proofs.Ytiidgcgamcgipaa
