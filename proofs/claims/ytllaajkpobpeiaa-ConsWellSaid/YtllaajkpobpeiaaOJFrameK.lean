/- What the document's Bytes answers. -/
import Derived.Test.YtllaajkpobpeiaaOJFrameJ
namespace Go.Proofs.Ytllaajkpobpeiaa
open Go.RowKit
theorem own_below {w w' : World} {base e s n : Nat} {v : Value} {xs : List Value} (h : w.ownsRow base e s v n xs) (hb : Below w.heap.size w w') : w'.ownsRow base e s v n xs :=
  ⟨h.1, by
    rcases h.2 with h0 | ⟨g, cap, cur, e1, h1, hg, h2⟩
    · exact .inl h0
    · exact .inr ⟨g, cap, cur, e1, h1, (hb.block g (Array.getElem?_eq_some_iff.1 hg).1).trans hg, h2⟩⟩
end Go.Proofs.Ytllaajkpobpeiaa