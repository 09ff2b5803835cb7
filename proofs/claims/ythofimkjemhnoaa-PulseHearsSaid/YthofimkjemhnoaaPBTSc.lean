/- What Place's closure and BinarySearchFunc answer where keys are numbers and things texts. -/
import Derived.Test.YthofimkjemhnoaaPBTSb
namespace Go.Proofs.Ythofimkjemhnoaa
open Go.RowKit
set_option linter.unusedSimpArgs false
set_option linter.unusedVariables false
def eS (k : ByteArray) : Value := .string k
end Go.Proofs.Ythofimkjemhnoaa