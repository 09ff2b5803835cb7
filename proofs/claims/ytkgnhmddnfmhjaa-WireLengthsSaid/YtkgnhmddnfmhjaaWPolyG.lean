/- What the document's May answers. -/
import Derived.Test.YtkgnhmddnfmhjaaWPolyMath2
namespace Go.Proofs.Ytkgnhmddnfmhjaa
open Go.RowKit
end Go.Proofs.Ytkgnhmddnfmhjaa