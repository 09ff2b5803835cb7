/-
  No cell of these rows narrows 'for every input' (looked for: loops, veiled, ifaces, maps, wideKeys, modest, calm, conditions, laid).
  DERIVED. THE GIVEN ROWS OF THIS SEAT. 4 by the template 'for every input the law returns true; each argument reads behind the call as it read before'; 0 by the template 'total and deterministic' (their statements: YtjofgomnnpeepaaTotals.lean).
  GIVEN WITH THE SEED: the statements are not yours to turn. If you find one false, say at which input.
  Laid BY PROGRAM, IN A SANDBOX (cutbox-rows.mjs): the forced cells as the released guide's own fill.sh prints them over the translation e193b767fc299749… (all of the seat's roots in one cut). By AI agents, Wed Nov 11 2026. No macro, syntax, notation, axiom, sorry.
-/
import Derived.Test.YtjofgomnnpeepaaChecked
import GoSem.Claim
import GoSem.ClaimJoined
import GoSem.ClaimMapViews
import Derived.JoinedTies
import Derived.KernelRfl
namespace Go.Proofs.Ytjofgomnnpeepaa
/- THE CELL 'sum', in the pinned program and in every row, IS THE sha256 OF THE DUMP (.gsa) THAT YtjofgomnnpeepaaProg.lean LOADS. Nothing in Lean hashes anything: it is a label: what it is worth is what the hold of that sum in a sandbox is worth. -/
noncomputable def Try.pinned : Pinned := { name := "ytjofgomnnpeepaa", sum := "e193b767fc299749a7d41440f15ac7374f2756a1b570c466a86586a0f26ef124", checked := Try.checked }
namespace Rows
def none {H : Type} : Left H := { results := [], args := [] }

/-- 'tripwirelaw06.FilterPasses': WHATEVER THE INPUT: true; the input reads as it did. -/
def filterPassesSpec : ChangeSpec := { name := "filterPasses", fn := fun _ => fun
  | [d1, d2] => { results := [.lit (.bool true)], args := [d1, d2] }
  | _ => none }
def filterPassesRow : OpenClaim := { program := "ytjofgomnnpeepaa", sum := "e193b767fc299749a7d41440f15ac7374f2756a1b570c466a86586a0f26ef124", func := "tripwire/tripwirelaw06.FilterPasses", spec := "filterPasses", unfollowed := true, recurses := true, apart := false }
def FilterPassesSaid : Prop := filterPassesRow.holds Try.pinned (OpenSpec.ofChange filterPassesSpec)

/-- ITS FALSE NEIGHBOUR: 'it returns false'. Refute it at one input. -/
def filterPassesWrong : ChangeSpec := { name := "filterPasses", fn := fun _ => fun
  | [d1, d2] => { results := [.lit (.bool false)], args := [d1, d2] }
  | _ => none }
def FilterPassesWrongFalsely : Prop := filterPassesRow.holds Try.pinned (OpenSpec.ofChange filterPassesWrong)

/-- 'tripwirelaw06.FilterMeets': WHATEVER THE INPUT: true; the input reads as it did. -/
def filterMeetsSpec : ChangeSpec := { name := "filterMeets", fn := fun _ => fun
  | [d1, d2] => { results := [.lit (.bool true)], args := [d1, d2] }
  | _ => none }
def filterMeetsRow : OpenClaim := { program := "ytjofgomnnpeepaa", sum := "e193b767fc299749a7d41440f15ac7374f2756a1b570c466a86586a0f26ef124", func := "tripwire/tripwirelaw06.FilterMeets", spec := "filterMeets", unfollowed := true, recurses := true, apart := false }
def FilterMeetsSaid : Prop := filterMeetsRow.holds Try.pinned (OpenSpec.ofChange filterMeetsSpec)

/-- ITS FALSE NEIGHBOUR: 'it returns false'. Refute it at one input. -/
def filterMeetsWrong : ChangeSpec := { name := "filterMeets", fn := fun _ => fun
  | [d1, d2] => { results := [.lit (.bool false)], args := [d1, d2] }
  | _ => none }
def FilterMeetsWrongFalsely : Prop := filterMeetsRow.holds Try.pinned (OpenSpec.ofChange filterMeetsWrong)

/-- 'tripwirelaw06.FilterPacks': WHATEVER THE INPUT: true; the input reads as it did. -/
def filterPacksSpec : ChangeSpec := { name := "filterPacks", fn := fun _ => fun
  | [d] => { results := [.lit (.bool true)], args := [d] }
  | _ => none }
def filterPacksRow : OpenClaim := { program := "ytjofgomnnpeepaa", sum := "e193b767fc299749a7d41440f15ac7374f2756a1b570c466a86586a0f26ef124", func := "tripwire/tripwirelaw06.FilterPacks", spec := "filterPacks", recurses := true, apart := false }
def FilterPacksSaid : Prop := filterPacksRow.holds Try.pinned (OpenSpec.ofChange filterPacksSpec)

/-- ITS FALSE NEIGHBOUR: 'it returns false'. Refute it at one input. -/
def filterPacksWrong : ChangeSpec := { name := "filterPacks", fn := fun _ => fun
  | [d] => { results := [.lit (.bool false)], args := [d] }
  | _ => none }
def FilterPacksWrongFalsely : Prop := filterPacksRow.holds Try.pinned (OpenSpec.ofChange filterPacksWrong)

/-- 'tripwirelaw06.FilterJust': WHATEVER THE INPUT: true; the input reads as it did. -/
def filterJustSpec : ChangeSpec := { name := "filterJust", fn := fun _ => fun
  | [d] => { results := [.lit (.bool true)], args := [d] }
  | _ => none }
def filterJustRow : OpenClaim := { program := "ytjofgomnnpeepaa", sum := "e193b767fc299749a7d41440f15ac7374f2756a1b570c466a86586a0f26ef124", func := "tripwire/tripwirelaw06.FilterJust", spec := "filterJust", apart := false }
def FilterJustSaid : Prop := filterJustRow.holds Try.pinned (OpenSpec.ofChange filterJustSpec)

/-- ITS FALSE NEIGHBOUR: 'it returns false'. Refute it at one input. -/
def filterJustWrong : ChangeSpec := { name := "filterJust", fn := fun _ => fun
  | [d] => { results := [.lit (.bool false)], args := [d] }
  | _ => none }
def FilterJustWrongFalsely : Prop := filterJustRow.holds Try.pinned (OpenSpec.ofChange filterJustWrong)

/- THE SECOND FORM. 'bulk': how many values and letters a reading holds, each counted each time it is reached (what is shared counts as often as it is met; a slice's spare places count too). A statement '..UptoSaid' is the law's where the arguments, and the package variables that the reading takes, are together of bulk at most 1048576: NARROWER than '..Said'. Prove '..Said' where nothing that the law and all that it calls make is longer than what came in: it says more and counts as full. Else prove '..UptoSaid'. A law counts once. -/
mutual
def uptoBulk {H : Type} : DataW H → Nat
  | .lit (.string bytes) => bytes.length + 1
  | .lit _ => 1
  | .nil => 1
  | .ptr d => uptoBulk d + 1
  | .slice elems spare => uptoBulkAll elems + uptoBulkAll spare + 1
  | .agg parts => uptoBulkAll parts + 1
  | .iface _ d => uptoBulk d + 1
  | .map entries => uptoBulkEntries entries + 1
  | .held _ => 1
def uptoBulkAll {H : Type} : List (DataW H) → Nat
  | [] => 0
  | d :: r => uptoBulk d + uptoBulkAll r
def uptoBulkEntries {H : Type} : List (Lit × DataW H) → Nat
  | [] => 0
  | x :: r => uptoBulkEntry x + uptoBulkEntries r
def uptoBulkEntry {H : Type} : Lit × DataW H → Nat
  | (.string bytes, d) => bytes.length + uptoBulk d + 1
  | (_, d) => uptoBulk d + 1
 end
def uptoSmall : (H : Type) → List (DataW H) → Bool := fun _ ds => decide (uptoBulkAll ds ≤ 1048576)
def OpenSpec.upto (s : _root_.Go.ChangeSpec) : _root_.Go.OpenSpec := { _root_.Go.OpenSpec.ofChange s with cond := some uptoSmall }

/-- 'tripwirelaw06.FilterPasses', WHERE WHAT IT READS IS OF BULK AT MOST 1048576: true; the input reads as it did. -/
def filterPassesUptoRow : OpenClaim := { program := "ytjofgomnnpeepaa", sum := "e193b767fc299749a7d41440f15ac7374f2756a1b570c466a86586a0f26ef124", func := "tripwire/tripwirelaw06.FilterPasses", spec := "filterPasses", unfollowed := true, recurses := true, apart := false, narrowed := true }
def FilterPassesUptoSaid : Prop := filterPassesUptoRow.holds Try.pinned (OpenSpec.upto filterPassesSpec)

/-- 'tripwirelaw06.FilterMeets', WHERE WHAT IT READS IS OF BULK AT MOST 1048576: true; the input reads as it did. -/
def filterMeetsUptoRow : OpenClaim := { program := "ytjofgomnnpeepaa", sum := "e193b767fc299749a7d41440f15ac7374f2756a1b570c466a86586a0f26ef124", func := "tripwire/tripwirelaw06.FilterMeets", spec := "filterMeets", unfollowed := true, recurses := true, apart := false, narrowed := true }
def FilterMeetsUptoSaid : Prop := filterMeetsUptoRow.holds Try.pinned (OpenSpec.upto filterMeetsSpec)

/-- 'tripwirelaw06.FilterPacks', WHERE WHAT IT READS IS OF BULK AT MOST 1048576: true; the input reads as it did. -/
def filterPacksUptoRow : OpenClaim := { program := "ytjofgomnnpeepaa", sum := "e193b767fc299749a7d41440f15ac7374f2756a1b570c466a86586a0f26ef124", func := "tripwire/tripwirelaw06.FilterPacks", spec := "filterPacks", recurses := true, apart := false, narrowed := true }
def FilterPacksUptoSaid : Prop := filterPacksUptoRow.holds Try.pinned (OpenSpec.upto filterPacksSpec)

/-- 'tripwirelaw06.FilterJust', WHERE WHAT IT READS IS OF BULK AT MOST 1048576: true; the input reads as it did. -/
def filterJustUptoRow : OpenClaim := { program := "ytjofgomnnpeepaa", sum := "e193b767fc299749a7d41440f15ac7374f2756a1b570c466a86586a0f26ef124", func := "tripwire/tripwirelaw06.FilterJust", spec := "filterJust", apart := false, narrowed := true }
def FilterJustUptoSaid : Prop := filterJustUptoRow.holds Try.pinned (OpenSpec.upto filterJustSpec)

end Rows
end Go.Proofs.Ytjofgomnnpeepaa
