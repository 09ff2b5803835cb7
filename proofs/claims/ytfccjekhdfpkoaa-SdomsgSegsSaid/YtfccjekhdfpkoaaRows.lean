/-
  No cell of these rows narrows 'for every input' (looked for: loops, veiled, ifaces, maps, wideKeys, modest, calm, conditions, laid).
  DERIVED. THE GIVEN ROWS OF THIS SEAT. 3 by the template 'for every input the law returns true; each argument reads behind the call as it read before'; 0 by the template 'total and deterministic' (their statements: YtfccjekhdfpkoaaTotals.lean).
  GIVEN WITH THE SEED: the statements are not yours to turn. If you find one false, say at which input.
  Laid BY PROGRAM, IN A SANDBOX (cutbox-rows.mjs): the forced cells as the released guide's own fill.sh prints them over the translation eee6f34846dede2a… (all of the seat's roots in one cut). By AI agents, Wed Nov 11 2026. No macro, syntax, notation, axiom, sorry.
-/
import Derived.Test.YtfccjekhdfpkoaaChecked
import GoSem.Claim
import GoSem.ClaimJoined
import GoSem.ClaimMapViews
import Derived.JoinedTies
import Derived.KernelRfl
namespace Go.Proofs.Ytfccjekhdfpkoaa
/- THE CELL 'sum', in the pinned program and in every row, IS THE sha256 OF THE DUMP (.gsa) THAT YtfccjekhdfpkoaaProg.lean LOADS. Nothing in Lean hashes anything: it is a label: what it is worth is what the hold of that sum in a sandbox is worth. -/
noncomputable def Try.pinned : Pinned := { name := "ytfccjekhdfpkoaa", sum := "eee6f34846dede2ac99273178a1a1271dc2daaab1240b26a95ffc525195b36ea", checked := Try.checked }
namespace Rows
def none {H : Type} : Left H := { results := [], args := [] }

/-- 'tripwirelaw17.SdomsgEncodes': WHATEVER THE INPUT: true; the input reads as it did. -/
def sdomsgEncodesSpec : ChangeSpec := { name := "sdomsgEncodes", fn := fun _ => fun
  | [d] => { results := [.lit (.bool true)], args := [d] }
  | _ => none }
def sdomsgEncodesRow : OpenClaim := { program := "ytfccjekhdfpkoaa", sum := "eee6f34846dede2ac99273178a1a1271dc2daaab1240b26a95ffc525195b36ea", func := "tripwire/tripwirelaw17.SdomsgEncodes", spec := "sdomsgEncodes", apart := false }
def SdomsgEncodesSaid : Prop := sdomsgEncodesRow.holds Try.pinned (OpenSpec.ofChange sdomsgEncodesSpec)

/-- ITS FALSE NEIGHBOUR: 'it returns false'. Refute it at one input. -/
def sdomsgEncodesWrong : ChangeSpec := { name := "sdomsgEncodes", fn := fun _ => fun
  | [d] => { results := [.lit (.bool false)], args := [d] }
  | _ => none }
def SdomsgEncodesWrongFalsely : Prop := sdomsgEncodesRow.holds Try.pinned (OpenSpec.ofChange sdomsgEncodesWrong)

/-- 'tripwirelaw17.SdomsgDecodes': WHATEVER THE INPUT: true; the input reads as it did. -/
def sdomsgDecodesSpec : ChangeSpec := { name := "sdomsgDecodes", fn := fun _ => fun
  | [d1, d2] => { results := [.lit (.bool true)], args := [d1, d2] }
  | _ => none }
def sdomsgDecodesRow : OpenClaim := { program := "ytfccjekhdfpkoaa", sum := "eee6f34846dede2ac99273178a1a1271dc2daaab1240b26a95ffc525195b36ea", func := "tripwire/tripwirelaw17.SdomsgDecodes", spec := "sdomsgDecodes", apart := false }
def SdomsgDecodesSaid : Prop := sdomsgDecodesRow.holds Try.pinned (OpenSpec.ofChange sdomsgDecodesSpec)

/-- ITS FALSE NEIGHBOUR: 'it returns false'. Refute it at one input. -/
def sdomsgDecodesWrong : ChangeSpec := { name := "sdomsgDecodes", fn := fun _ => fun
  | [d1, d2] => { results := [.lit (.bool false)], args := [d1, d2] }
  | _ => none }
def SdomsgDecodesWrongFalsely : Prop := sdomsgDecodesRow.holds Try.pinned (OpenSpec.ofChange sdomsgDecodesWrong)

/-- 'tripwirelaw17.SdomsgSegs': WHATEVER THE INPUT: true; the input reads as it did. -/
def sdomsgSegsSpec : ChangeSpec := { name := "sdomsgSegs", fn := fun _ => fun
  | [d1, d2, d3, d4, d5, d6] => { results := [.lit (.bool true)], args := [d1, d2, d3, d4, d5, d6] }
  | _ => none }
def sdomsgSegsRow : OpenClaim := { program := "ytfccjekhdfpkoaa", sum := "eee6f34846dede2ac99273178a1a1271dc2daaab1240b26a95ffc525195b36ea", func := "tripwire/tripwirelaw17.SdomsgSegs", spec := "sdomsgSegs", apart := false }
def SdomsgSegsSaid : Prop := sdomsgSegsRow.holds Try.pinned (OpenSpec.ofChange sdomsgSegsSpec)

/-- ITS FALSE NEIGHBOUR: 'it returns false'. Refute it at one input. -/
def sdomsgSegsWrong : ChangeSpec := { name := "sdomsgSegs", fn := fun _ => fun
  | [d1, d2, d3, d4, d5, d6] => { results := [.lit (.bool false)], args := [d1, d2, d3, d4, d5, d6] }
  | _ => none }
def SdomsgSegsWrongFalsely : Prop := sdomsgSegsRow.holds Try.pinned (OpenSpec.ofChange sdomsgSegsWrong)

/- THE SECOND FORM. 'bulk': how many values and letters a reading holds, each counted each time it is reached (what is shared counts as often as it is met; a slice's spare places count too). A statement '..UptoSaid' is the law's where the arguments, and the package variables that the reading takes, are together of bulk at most 1048576: NARROWER than '..Said'. Prove '..Said' where nothing that the law and all that it calls make is longer than what came in: it says more and counts as full. Else prove '..UptoSaid'. A law counts once. -/
mutual
def uptoBulk {H : Type} : DataW H → Nat
  | .lit (.string bytes) => bytes.length + 1
  | .lit _ => 1
  | .nil => 1
  | .ptr d => uptoBulk d + 1
  | .slice elems spare => uptoBulkAll elems + uptoBulkAll spare + 1
  | .agg parts => uptoBulkAll parts + 1
  | .iface _ d => uptoBulk d + 1
  | .map entries => uptoBulkEntries entries + 1
  | .held _ => 1
def uptoBulkAll {H : Type} : List (DataW H) → Nat
  | [] => 0
  | d :: r => uptoBulk d + uptoBulkAll r
def uptoBulkEntries {H : Type} : List (Lit × DataW H) → Nat
  | [] => 0
  | x :: r => uptoBulkEntry x + uptoBulkEntries r
def uptoBulkEntry {H : Type} : Lit × DataW H → Nat
  | (.string bytes, d) => bytes.length + uptoBulk d + 1
  | (_, d) => uptoBulk d + 1
 end
def uptoSmall : (H : Type) → List (DataW H) → Bool := fun _ ds => decide (uptoBulkAll ds ≤ 1048576)
def OpenSpec.upto (s : _root_.Go.ChangeSpec) : _root_.Go.OpenSpec := { _root_.Go.OpenSpec.ofChange s with cond := some uptoSmall }

/-- 'tripwirelaw17.SdomsgEncodes', WHERE WHAT IT READS IS OF BULK AT MOST 1048576: true; the input reads as it did. -/
def sdomsgEncodesUptoRow : OpenClaim := { program := "ytfccjekhdfpkoaa", sum := "eee6f34846dede2ac99273178a1a1271dc2daaab1240b26a95ffc525195b36ea", func := "tripwire/tripwirelaw17.SdomsgEncodes", spec := "sdomsgEncodes", apart := false, narrowed := true }
def SdomsgEncodesUptoSaid : Prop := sdomsgEncodesUptoRow.holds Try.pinned (OpenSpec.upto sdomsgEncodesSpec)

/-- 'tripwirelaw17.SdomsgDecodes', WHERE WHAT IT READS IS OF BULK AT MOST 1048576: true; the input reads as it did. -/
def sdomsgDecodesUptoRow : OpenClaim := { program := "ytfccjekhdfpkoaa", sum := "eee6f34846dede2ac99273178a1a1271dc2daaab1240b26a95ffc525195b36ea", func := "tripwire/tripwirelaw17.SdomsgDecodes", spec := "sdomsgDecodes", apart := false, narrowed := true }
def SdomsgDecodesUptoSaid : Prop := sdomsgDecodesUptoRow.holds Try.pinned (OpenSpec.upto sdomsgDecodesSpec)

/-- 'tripwirelaw17.SdomsgSegs', WHERE WHAT IT READS IS OF BULK AT MOST 1048576: true; the input reads as it did. -/
def sdomsgSegsUptoRow : OpenClaim := { program := "ytfccjekhdfpkoaa", sum := "eee6f34846dede2ac99273178a1a1271dc2daaab1240b26a95ffc525195b36ea", func := "tripwire/tripwirelaw17.SdomsgSegs", spec := "sdomsgSegs", apart := false, narrowed := true }
def SdomsgSegsUptoSaid : Prop := sdomsgSegsUptoRow.holds Try.pinned (OpenSpec.upto sdomsgSegsSpec)

end Rows
end Go.Proofs.Ytfccjekhdfpkoaa
