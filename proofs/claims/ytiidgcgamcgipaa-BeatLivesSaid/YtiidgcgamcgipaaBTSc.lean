/- What Place's closure and BinarySearchFunc answer where keys are numbers and things texts. -/
import Derived.Test.YtiidgcgamcgipaaBTSb
namespace Go.Proofs.Ytiidgcgamcgipaa
open Go.RowKit
set_option linter.unusedSimpArgs false
set_option linter.unusedVariables false
def eS (k : ByteArray) : Value := .string k
end Go.Proofs.Ytiidgcgamcgipaa