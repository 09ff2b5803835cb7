/- A dictionary's Fork. -/
import Derived.Test.YtgaoplbocjadaaaYDv
import Derived.Test.YtgaoplbocjadaaaYDy
namespace Go.Proofs.Ytgaoplbocjadaaa
open Go.RowKit
set_option linter.unusedSimpArgs false
set_option linter.unusedVariables false
theorem Sh.lessE {tb tr : Nat} {w : World} {base base' g n : Nat} {cs : List Value} {v : Value} (h : Sh tb tr w base g n cs v) (hb : base' ≤ base) : Sh tb tr w base' g n cs v := ⟨h.box, own_less h.row hb, h.isnt⟩
def ForkP (w : World) (T : List (Int × Ent)) (ch : Int) (e : Ending) (w' : World) : Prop := ∃ g s v, e = .returned (.pointer (some ⟨g, 0, none⟩)) ∧ DiI w' w.heap.size g s T ch v ∧ w.heap.size ≤ g ∧ w.heap.size ≤ s ∧ Below w.heap.size w w'
end Go.Proofs.Ytgaoplbocjadaaa
namespace Go.Proofs.Ytgaoplbocjadaaa
open Go.RowKit
set_option linter.unusedSimpArgs false
set_option linter.unusedVariables false
def RdP (w : World) (R : List (Int × Ent)) (i q : Int) (e : Ending) (w' : World) : Prop := Below w.heap.size w w' ∧
  (((∀ y ∈ R, ¬ y.1 = q) ∧ (((∃ x ∈ R, x.1 / 256 = i) ∧ e = .returned (.tuple #[.string ⟨#[]⟩, .int .i64 101253137])) ∨ ((∀ y ∈ R, ¬ y.1 / 256 = i) ∧ e = .returned (.tuple #[.string ⟨#[]⟩, .int .i64 100794368])))) ∨
   ∃ (p : Nat) (x : Int × Ent), R[p]? = some x ∧ x.1 = q ∧ ((¬ readsI x.2.a = 0 ∧ e = .returned (.tuple #[.string ⟨#[]⟩, .int .i64 (readsI x.2.a)])) ∨ (readsI x.2.a = 0 ∧ e = .returned (.tuple #[.string (strOfNums x.2.b), .int .i64 0]))))
end Go.Proofs.Ytgaoplbocjadaaa
namespace Go.Proofs.Ytgaoplbocjadaaa
open Go.RowKit
set_option linter.unusedSimpArgs false
set_option linter.unusedVariables false
def NmP (w : World) (R : List (Int × Ent)) (q : Int) (e : Ending) (w' : World) : Prop := Below w.heap.size w w' ∧
  (((∀ y ∈ R, ¬ y.1 = q) ∧ e = .returned (.tuple #[.int .i64 0, .bool false])) ∨
   ∃ (p : Nat) (x : Int × Ent), R[p]? = some x ∧ x.1 = q ∧ e = .returned (.tuple #[.int .i64 (numN x.2.k x.2.a x.2.lo x.2.hi x.2.b), .bool (numB x.2.k x.2.a x.2.lo x.2.hi x.2.b)]))
end Go.Proofs.Ytgaoplbocjadaaa
