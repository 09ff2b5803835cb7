/- What the functions that All and From hand back do. -/
import Derived.Test.YtchmildlkaikmaaADf
namespace Go.Proofs.Ytchmildlkaikmaa
open Go.RowKit Go.Shelf
set_option linter.unusedSimpArgs false
set_option linter.unusedVariables false
def encP (x : Int × Ent) : Array Value := #[.int .i64 x.1, entV x.2]
/-- What Place answers, whatever it makes. -/
def Plc (w : World) (at_ : Nat) (th : Bool) (e : Ending) (w' : World) : Prop := e = .returned (.tuple #[.int .i64 (at_ : Nat), .bool th]) ∧ Below w.heap.size w w'
end Go.Proofs.Ytchmildlkaikmaa