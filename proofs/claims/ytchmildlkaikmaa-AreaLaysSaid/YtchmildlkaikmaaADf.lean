/- What tell does: a loop over an iterator that hands the outer loop's yield each row. -/
import Derived.Test.YtchmildlkaikmaaADe
namespace Go.Proofs.Ytchmildlkaikmaa
open Go.RowKit Go.Shelf
set_option linter.unusedSimpArgs false
set_option linter.unusedVariables false
theorem own_more {β : Type} {B B' : Nat} {J : β → World → Prop} (h : OwnFrom B J) (hb : B ≤ B') : OwnFrom B' J := fun s W W' row hs hg hr => h s W W' row hs hg (fun r e => by obtain ⟨h1, h2⟩ := hr r e; exact ⟨by omega, h2⟩)
theorem keeps_more {B B' : Nat} {W W' : World} (h : KeepsFrom B W W') (hb : B ≤ B') : KeepsFrom B' W W' := ⟨h.size, fun k o hk => h.same k o (by omega)⟩
def sn (pre : List Elt) : List (Int × Ent) := pre.map (·.2)
theorem sn_snoc (pre : List Elt) (i : Nat) (x : Int × Ent) : sn (pre ++ [(i, x)]) = sn pre ++ [x] := by simp [sn]
theorem sn_len (pre : List Elt) : (sn pre).length = pre.length := by simp [sn]
def TelI (J : List (Int × Ent) → World → Prop) (l b V : Nat) (tb : World → Option Nat) (pre : List Elt) (X : World) : Prop := J (sn pre) X ∧ X.heap[b]? = some (.cells #[.func (.yield l) #[] #[]] 83 (0, 0)) ∧ tb X ≠ some b ∧ V ≤ X.heap.size
def TelX (Jx : List (Int × Ent) → World → Prop) (c : Code) (pre : List Elt) (X : World) : Prop := c = .ret ∧ Jx (sn pre) X
def TelA (gf : Nat) (lb : Array Value) (l b0 V : Nat) (x : Elt) (a' : Act) (X : World) : Prop := ∃ b, X.heap[b]? = some (.cells #[.int .i64 x.2.1, .int .i64 x.2.2.k, .int .i64 x.2.2.a, .int .i64 x.2.2.lo, .int .i64 x.2.2.hi, .string (strOfNums x.2.2.b)] 135 (0, 0)) ∧ V ≤ b ∧ a' = { tmps := #[.func (Fn.func gf) #[] lb, .func (.yield l) #[] #[], undef, .pointer (some ⟨b0, 0, none⟩), undef, .pointer (some ⟨b, 0, none⟩), .func (Fn.func gf) #[] lb, .int .i64 (x.1 : Nat), .agg #[.int .i64 x.2.1, .int .i64 x.2.2.k, .int .i64 x.2.2.a, .int .i64 x.2.2.lo, .int .i64 x.2.2.hi, .string (strOfNums x.2.2.b)], undef, undef, undef, undef, undef, undef, undef], defers := [] }
end Go.Proofs.Ytchmildlkaikmaa