/- What Place's closure and BinarySearchFunc answer where keys are numbers and things texts. -/
import Derived.Test.YtbabohioeeandaaTSb
namespace Go.Proofs.Ytbabohioeeandaa
open Go.RowKit
def eS (k : ByteArray) : Value := .string k
end Go.Proofs.Ytbabohioeeandaa