/- A dictionary's Fork. -/
import Derived.Test.YtchmildlkaikmaaADv
namespace Go.Proofs.Ytchmildlkaikmaa
open Go.RowKit
set_option linter.unusedSimpArgs false
set_option linter.unusedVariables false
theorem Sh.lessE {tb tr : Nat} {w : World} {base base' g n : Nat} {cs : List Value} {v : Value} (h : Sh tb tr w base g n cs v) (hb : base' ≤ base) : Sh tb tr w base' g n cs v := ⟨h.box, own_less h.row hb, h.isnt⟩
def ForkP (w : World) (T : List (Int × Ent)) (ch : Int) (e : Ending) (w' : World) : Prop := ∃ g s v, e = .returned (.pointer (some ⟨g, 0, none⟩)) ∧ DiI w' w.heap.size g s T ch v ∧ w.heap.size ≤ g ∧ w.heap.size ≤ s ∧ Below w.heap.size w w'
end Go.Proofs.Ytchmildlkaikmaa