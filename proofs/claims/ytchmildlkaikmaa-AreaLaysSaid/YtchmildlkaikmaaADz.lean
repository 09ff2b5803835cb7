/- The document's Put. -/
import Derived.Test.YtchmildlkaikmaaADy
namespace Go.Proofs.Ytchmildlkaikmaa
open Go.RowKit
set_option linter.unusedSimpArgs false
set_option linter.unusedVariables false
theorem own_two {w : World} {base e s n : Nat} {v : Value} {xs : List Value} (h : w.ownsRow base e s v n xs) {g : Nat} (hg : v.ownBlock ≠ some g) (u u' : Value) : ((w.setCell ⟨g, 0, none⟩ u).setCell ⟨g, 1, none⟩ u').ownsRow base e s v n xs :=
  ownsRow_setCell_other (ownsRow_setCell_other h (a := ⟨g, 0, none⟩) hg u) (a := ⟨g, 1, none⟩) hg u'
theorem own_ne {w w' : World} {base s n : Nat} {v : Value} {xs : List Value} (h : w.ownsRow base 39 s v n xs) {g n' c : Nat} {a : Option Addr} {ch : Int} (hr : RBox w g a n' c ch) : v.ownBlock ≠ some g := fun e => by
  rcases h.2 with ⟨rfl, _⟩ | ⟨b, cap, cur, rfl, _, hb, _⟩
  · cases e
  · cases e; rw [hr] at hb; cases hb
/-- What the document's dictionary has become, and the answer. -/
def RefP (w : World) (base : Nat) (R : List (Int × Ent)) (ch code : Int) (e : Ending) (w' : World) : Prop := ∃ a c, e = .returned (.tuple #[.agg #[.slice a R.length c, .int .i64 ch], .int .i64 code]) ∧ w'.ownsRow base 39 7 (.slice a R.length c) R.length (fr R) ∧ Below w.heap.size w w'
theorem RefP.of_hold {w w1 w3 : World} {base n c' g : Nat} {a' a2 : Option Addr} {n2 c2 : Nat} {ch2 : Int} {R : List (Int × Ent)} {ch code : Int} (hn : n = R.length) (ho : w3.ownsRow w1.heap.size 39 7 (.slice a' n c') n (fr R)) (hz : RBox w3 g a2 n2 c2 ch2) (hb : Below w.heap.size w w3) (hbase : base ≤ w1.heap.size) (hg : w.heap.size ≤ g) :
    RefP w base R ch code (.returned (.tuple #[.agg #[.slice a' n c', .int .i64 ch], .int .i64 code])) ((w3.setCell ⟨g, 0, none⟩ (.slice a' n c')).setCell ⟨g, 1, none⟩ (.int .i64 ch)) := by
  subst hn
  exact ⟨a', c', rfl, own_less (own_two ho (own_ne (w' := w3) ho hz) _ _) hbase, (hb.setCell (p := ⟨g, 0, none⟩) hg _).setCell (p := ⟨g, 1, none⟩) hg _⟩
theorem RefP.same {w w3 : World} {base n c g : Nat} {a a2 : Option Addr} {n2 c2 : Nat} {ch2 : Int} {R : List (Int × Ent)} {ch code : Int} (hn : n = R.length) (h : w.ownsRow base 39 7 (.slice a n c) n (fr R)) (hz : RBox w3 g a2 n2 c2 ch2) (hb : Below w.heap.size w w3) (hg : w.heap.size ≤ g) :
    RefP w base R ch code (.returned (.tuple #[.agg #[.slice a n c, .int .i64 ch], .int .i64 code])) ((w3.setCell ⟨g, 0, none⟩ (.slice a n c)).setCell ⟨g, 1, none⟩ (.int .i64 ch)) := by
  subst hn
  have h3 := own_keep h hb
  exact ⟨a, c, rfl, own_two h3 (own_ne (w' := w3) h3 hz) _ _, (hb.setCell (p := ⟨g, 0, none⟩) hg _).setCell (p := ⟨g, 1, none⟩) hg _⟩
def PutP (w : World) (base : Nat) (R : List (Int × Ent)) (ch q : Int) (l : List Int) (e : Ending) (w' : World) : Prop :=
  ((∀ y ∈ R, ¬ y.1 = q) ∧ RefP w base R ch 7 e w') ∨ ∃ (p : Nat) (x : Int × Ent), R[p]? = some x ∧ x.1 = q ∧ ((x.2.a = 4 ∧ RefP w base R ch 12 e w') ∨ (¬ x.2.a = 4 ∧ ¬ fitsA x.2.k x.2.a x.2.lo x.2.hi l = 0 ∧ RefP w base R ch 14 e w') ∨ (¬ x.2.a = 4 ∧ fitsA x.2.k x.2.a x.2.lo x.2.hi l = 0 ∧ RefP w base (R.set p (x.1, ⟨x.2.k, x.2.a, x.2.lo, x.2.hi, l⟩)) (givC ch x.2 l) 0 e w'))
end Go.Proofs.Ytchmildlkaikmaa