/- What Place's closure and BinarySearchFunc answer where keys are numbers and things texts. -/
import Derived.Test.YtelklbbjjogbbaaTSb
namespace Go.Proofs.Ytelklbbjjogbbaa
open Go.RowKit
def eS (k : ByteArray) : Value := .string k
end Go.Proofs.Ytelklbbjjogbbaa