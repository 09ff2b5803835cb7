/-
  No cell of these rows narrows 'for every input' (looked for: loops, veiled, ifaces, maps, wideKeys, modest, calm, conditions, laid).
  DERIVED. THE GIVEN ROWS OF THIS SEAT. 3 by the template 'for every input the law returns true; each argument reads behind the call as it read before'; 0 by the template 'total and deterministic' (their statements: YtncnlbokipieaaaTotals.lean).
  GIVEN WITH THE SEED: the statements are not yours to turn. If you find one false, say at which input.
  Laid BY PROGRAM, IN A SANDBOX (cutbox-rows.mjs): the forced cells as the released guide's own fill.sh prints them over the translation 1fd4a5a1ca387288… (all of the seat's roots in one cut). By AI agents, Wed Nov 11 2026. No macro, syntax, notation, axiom, sorry.
-/
import Derived.Test.YtncnlbokipieaaaChecked
import GoSem.Claim
import GoSem.ClaimJoined
import GoSem.ClaimMapViews
import Derived.JoinedTies
import Derived.KernelRfl
namespace Go.Proofs.Ytncnlbokipieaaa
/- THE CELL 'sum', in the pinned program and in every row, IS THE sha256 OF THE DUMP (.gsa) THAT YtncnlbokipieaaaProg.lean LOADS. Nothing in Lean hashes anything: it is a label: what it is worth is what the hold of that sum in a sandbox is worth. -/
noncomputable def Try.pinned : Pinned := { name := "ytncnlbokipieaaa", sum := "1fd4a5a1ca3872886c59b3547602675a11d864a5605ea7e86247d1e91668a773", checked := Try.checked }
namespace Rows
def none {H : Type} : Left H := { results := [], args := [] }

/-- 'tripwirelaw24.EmcyFrames': WHATEVER THE INPUT: true; the input reads as it did. -/
def emcyFramesSpec : ChangeSpec := { name := "emcyFrames", fn := fun _ => fun
  | [d1, d2] => { results := [.lit (.bool true)], args := [d1, d2] }
  | _ => none }
def emcyFramesRow : OpenClaim := { program := "ytncnlbokipieaaa", sum := "1fd4a5a1ca3872886c59b3547602675a11d864a5605ea7e86247d1e91668a773", func := "tripwire/tripwirelaw24.EmcyFrames", spec := "emcyFrames", apart := false }
def EmcyFramesSaid : Prop := emcyFramesRow.holds Try.pinned (OpenSpec.ofChange emcyFramesSpec)

/-- ITS FALSE NEIGHBOUR: 'it returns false'. Refute it at one input. -/
def emcyFramesWrong : ChangeSpec := { name := "emcyFrames", fn := fun _ => fun
  | [d1, d2] => { results := [.lit (.bool false)], args := [d1, d2] }
  | _ => none }
def EmcyFramesWrongFalsely : Prop := emcyFramesRow.holds Try.pinned (OpenSpec.ofChange emcyFramesWrong)

/-- 'tripwirelaw24.EmcyPlays': WHATEVER THE INPUT: true; the input reads as it did. -/
def emcyPlaysSpec : ChangeSpec := { name := "emcyPlays", fn := fun _ => fun
  | [d1, d2, d3] => { results := [.lit (.bool true)], args := [d1, d2, d3] }
  | _ => none }
def emcyPlaysRow : OpenClaim := { program := "ytncnlbokipieaaa", sum := "1fd4a5a1ca3872886c59b3547602675a11d864a5605ea7e86247d1e91668a773", func := "tripwire/tripwirelaw24.EmcyPlays", spec := "emcyPlays", inPlace := ["maps.clone"], unfollowed := true, recurses := true, apart := false }
def EmcyPlaysSaid : Prop := emcyPlaysRow.holds Try.pinned (OpenSpec.ofChange emcyPlaysSpec)

/-- ITS FALSE NEIGHBOUR: 'it returns false'. Refute it at one input. -/
def emcyPlaysWrong : ChangeSpec := { name := "emcyPlays", fn := fun _ => fun
  | [d1, d2, d3] => { results := [.lit (.bool false)], args := [d1, d2, d3] }
  | _ => none }
def EmcyPlaysWrongFalsely : Prop := emcyPlaysRow.holds Try.pinned (OpenSpec.ofChange emcyPlaysWrong)

/-- 'tripwirelaw24.EmcyOnce': WHATEVER THE INPUT: true; the input reads as it did. -/
def emcyOnceSpec : ChangeSpec := { name := "emcyOnce", fn := fun _ => fun
  | [d] => { results := [.lit (.bool true)], args := [d] }
  | _ => none }
def emcyOnceRow : OpenClaim := { program := "ytncnlbokipieaaa", sum := "1fd4a5a1ca3872886c59b3547602675a11d864a5605ea7e86247d1e91668a773", func := "tripwire/tripwirelaw24.EmcyOnce", spec := "emcyOnce", unfollowed := true, recurses := true, apart := false }
def EmcyOnceSaid : Prop := emcyOnceRow.holds Try.pinned (OpenSpec.ofChange emcyOnceSpec)

/-- ITS FALSE NEIGHBOUR: 'it returns false'. Refute it at one input. -/
def emcyOnceWrong : ChangeSpec := { name := "emcyOnce", fn := fun _ => fun
  | [d] => { results := [.lit (.bool false)], args := [d] }
  | _ => none }
def EmcyOnceWrongFalsely : Prop := emcyOnceRow.holds Try.pinned (OpenSpec.ofChange emcyOnceWrong)

/- THE SECOND FORM. 'bulk': how many values and letters a reading holds, each counted each time it is reached (what is shared counts as often as it is met; a slice's spare places count too). A statement '..UptoSaid' is the law's where the arguments, and the package variables that the reading takes, are together of bulk at most 1048576: NARROWER than '..Said'. Prove '..Said' where nothing that the law and all that it calls make is longer than what came in: it says more and counts as full. Else prove '..UptoSaid'. A law counts once. -/
mutual
def uptoBulk {H : Type} : DataW H → Nat
  | .lit (.string bytes) => bytes.length + 1
  | .lit _ => 1
  | .nil => 1
  | .ptr d => uptoBulk d + 1
  | .slice elems spare => uptoBulkAll elems + uptoBulkAll spare + 1
  | .agg parts => uptoBulkAll parts + 1
  | .iface _ d => uptoBulk d + 1
  | .map entries => uptoBulkEntries entries + 1
  | .held _ => 1
def uptoBulkAll {H : Type} : List (DataW H) → Nat
  | [] => 0
  | d :: r => uptoBulk d + uptoBulkAll r
def uptoBulkEntries {H : Type} : List (Lit × DataW H) → Nat
  | [] => 0
  | x :: r => uptoBulkEntry x + uptoBulkEntries r
def uptoBulkEntry {H : Type} : Lit × DataW H → Nat
  | (.string bytes, d) => bytes.length + uptoBulk d + 1
  | (_, d) => uptoBulk d + 1
 end
def uptoSmall : (H : Type) → List (DataW H) → Bool := fun _ ds => decide (uptoBulkAll ds ≤ 1048576)
def OpenSpec.upto (s : _root_.Go.ChangeSpec) : _root_.Go.OpenSpec := { _root_.Go.OpenSpec.ofChange s with cond := some uptoSmall }

/-- 'tripwirelaw24.EmcyFrames', WHERE WHAT IT READS IS OF BULK AT MOST 1048576: true; the input reads as it did. -/
def emcyFramesUptoRow : OpenClaim := { program := "ytncnlbokipieaaa", sum := "1fd4a5a1ca3872886c59b3547602675a11d864a5605ea7e86247d1e91668a773", func := "tripwire/tripwirelaw24.EmcyFrames", spec := "emcyFrames", apart := false, narrowed := true }
def EmcyFramesUptoSaid : Prop := emcyFramesUptoRow.holds Try.pinned (OpenSpec.upto emcyFramesSpec)

/-- 'tripwirelaw24.EmcyPlays', WHERE WHAT IT READS IS OF BULK AT MOST 1048576: true; the input reads as it did. -/
def emcyPlaysUptoRow : OpenClaim := { program := "ytncnlbokipieaaa", sum := "1fd4a5a1ca3872886c59b3547602675a11d864a5605ea7e86247d1e91668a773", func := "tripwire/tripwirelaw24.EmcyPlays", spec := "emcyPlays", inPlace := ["maps.clone"], unfollowed := true, recurses := true, apart := false, narrowed := true }
def EmcyPlaysUptoSaid : Prop := emcyPlaysUptoRow.holds Try.pinned (OpenSpec.upto emcyPlaysSpec)

/-- 'tripwirelaw24.EmcyOnce', WHERE WHAT IT READS IS OF BULK AT MOST 1048576: true; the input reads as it did. -/
def emcyOnceUptoRow : OpenClaim := { program := "ytncnlbokipieaaa", sum := "1fd4a5a1ca3872886c59b3547602675a11d864a5605ea7e86247d1e91668a773", func := "tripwire/tripwirelaw24.EmcyOnce", spec := "emcyOnce", unfollowed := true, recurses := true, apart := false, narrowed := true }
def EmcyOnceUptoSaid : Prop := emcyOnceUptoRow.holds Try.pinned (OpenSpec.upto emcyOnceSpec)

end Rows
end Go.Proofs.Ytncnlbokipieaaa
