/- pair: live. -/
import Derived.Test.YtllaajkpobpeiaaOJc
namespace Go.Proofs.Ytllaajkpobpeiaa
open Go.RowKit
set_option linter.unusedSimpArgs false
set_option linter.unusedVariables false
theorem byt_one (w : World) (x : Int) (h : 0 ≤ x ∧ x ≤ 255) : Byt (w.alloc (.cells #[.int .u8 x] 5)) (w.heap.size + 1) (some ⟨w.heap.size, 0, none⟩) 1 1 [x] :=
  Byt.new w 5 [x] (by simpa using h) (by simp [maxLen])
end Go.Proofs.Ytllaajkpobpeiaa