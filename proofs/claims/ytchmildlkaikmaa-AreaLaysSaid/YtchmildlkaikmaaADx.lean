/- Why there is no such entry. -/
import Derived.Test.YtchmildlkaikmaaADw
namespace Go.Proofs.Ytchmildlkaikmaa
open Go.RowKit
set_option linter.unusedSimpArgs false
set_option linter.unusedVariables false
def MisP (w : World) (R : List (Int × Ent)) (i : Int) (e : Ending) (w' : World) : Prop := Below w.heap.size w w' ∧ (((∃ x ∈ R, x.1 / 256 = i) ∧ e = .returned (.int .i64 101253137)) ∨ ((∀ y ∈ R, ¬ y.1 / 256 = i) ∧ e = .returned (.int .i64 100794368)))
end Go.Proofs.Ytchmildlkaikmaa