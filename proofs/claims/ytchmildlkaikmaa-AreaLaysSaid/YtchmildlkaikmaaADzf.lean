/- The document's Read and Num. -/
import Derived.Test.YtchmildlkaikmaaADx
import Derived.Test.YtchmildlkaikmaaADv
namespace Go.Proofs.Ytchmildlkaikmaa
open Go.RowKit
set_option linter.unusedSimpArgs false
set_option linter.unusedVariables false
def RdP (w : World) (R : List (Int × Ent)) (i q : Int) (e : Ending) (w' : World) : Prop := Below w.heap.size w w' ∧
  (((∀ y ∈ R, ¬ y.1 = q) ∧ (((∃ x ∈ R, x.1 / 256 = i) ∧ e = .returned (.tuple #[.string ⟨#[]⟩, .int .i64 101253137])) ∨ ((∀ y ∈ R, ¬ y.1 / 256 = i) ∧ e = .returned (.tuple #[.string ⟨#[]⟩, .int .i64 100794368])))) ∨
   ∃ (p : Nat) (x : Int × Ent), R[p]? = some x ∧ x.1 = q ∧ ((¬ readsI x.2.a = 0 ∧ e = .returned (.tuple #[.string ⟨#[]⟩, .int .i64 (readsI x.2.a)])) ∨ (readsI x.2.a = 0 ∧ e = .returned (.tuple #[.string (strOfNums x.2.b), .int .i64 0]))))
end Go.Proofs.Ytchmildlkaikmaa
namespace Go.Proofs.Ytchmildlkaikmaa
open Go.RowKit
set_option linter.unusedSimpArgs false
set_option linter.unusedVariables false
def NmP (w : World) (R : List (Int × Ent)) (q : Int) (e : Ending) (w' : World) : Prop := Below w.heap.size w w' ∧
  (((∀ y ∈ R, ¬ y.1 = q) ∧ e = .returned (.tuple #[.int .i64 0, .bool false])) ∨
   ∃ (p : Nat) (x : Int × Ent), R[p]? = some x ∧ x.1 = q ∧ e = .returned (.tuple #[.int .i64 (numN x.2.k x.2.a x.2.lo x.2.hi x.2.b), .bool (numB x.2.k x.2.a x.2.lo x.2.hi x.2.b)]))
end Go.Proofs.Ytchmildlkaikmaa