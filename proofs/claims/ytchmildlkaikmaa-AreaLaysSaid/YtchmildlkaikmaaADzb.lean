/- The document's Write. -/
import Derived.Test.YtchmildlkaikmaaADz
namespace Go.Proofs.Ytchmildlkaikmaa
open Go.RowKit
set_option linter.unusedSimpArgs false
set_option linter.unusedVariables false
theorem two_cell {w : World} {g o k : Nat} {a b : Value} (h : ¬ o = g) : ((w.setCell ⟨g, 0, none⟩ a).setCell ⟨g, 1, none⟩ b).cell? ⟨o, k, none⟩ = w.cell? ⟨o, k, none⟩ := by
  have e1 : ∀ (W : World) (p : Nat) (x : Value), (W.setCell ⟨g, p, none⟩ x).cell? ⟨o, k, none⟩ = W.cell? ⟨o, k, none⟩ := fun W p x => by
    unfold World.cell?
    rw [Below.heap_setCell W ⟨g, p, none⟩ x o h]
  rw [e1, e1]
def WriteP (w : World) (base : Nat) (R : List (Int × Ent)) (ch i q : Int) (l : List Int) (e : Ending) (w' : World) : Prop :=
  ((∀ y ∈ R, ¬ y.1 = q) ∧ (((∃ x ∈ R, x.1 / 256 = i) ∧ RefP w base R ch 101253137 e w') ∨ ((∀ y ∈ R, ¬ y.1 / 256 = i) ∧ RefP w base R ch 100794368 e w'))) ∨ ∃ (p : Nat) (x : Int × Ent), R[p]? = some x ∧ x.1 = q ∧ ((¬ writesI x.2.a = 0 ∧ RefP w base R ch (writesI x.2.a) e w') ∨ (writesI x.2.a = 0 ∧ ¬ fitsA x.2.k x.2.a x.2.lo x.2.hi l = 0 ∧ RefP w base R ch (fitsA x.2.k x.2.a x.2.lo x.2.hi l) e w') ∨ (writesI x.2.a = 0 ∧ fitsA x.2.k x.2.a x.2.lo x.2.hi l = 0 ∧ RefP w base (R.set p (x.1, ⟨x.2.k, x.2.a, x.2.lo, x.2.hi, l⟩)) (givC ch x.2 l) 0 e w'))
end Go.Proofs.Ytchmildlkaikmaa