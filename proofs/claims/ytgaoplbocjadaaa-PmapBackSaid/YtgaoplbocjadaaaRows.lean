/-
  No cell of these rows narrows 'for every input' (looked for: loops, veiled, ifaces, maps, wideKeys, modest, calm, conditions, laid).
  DERIVED. THE GIVEN ROWS OF THIS SEAT. 6 by the template 'for every input the law returns true; each argument reads behind the call as it read before'; 0 by the template 'total and deterministic' (their statements: YtgaoplbocjadaaaTotals.lean).
  GIVEN WITH THE SEED: the statements are not yours to turn. If you find one false, say at which input.
  Laid BY PROGRAM, IN A SANDBOX (cutbox-rows.mjs): the forced cells as the released guide's own fill.sh prints them over the translation ecbba15eec6e044e… (all of the seat's roots in one cut). By AI agents, Wed Nov 11 2026. No macro, syntax, notation, axiom, sorry.
-/
import Derived.Test.YtgaoplbocjadaaaChecked
import GoSem.Claim
import GoSem.ClaimJoined
import GoSem.ClaimMapViews
import Derived.JoinedTies
import Derived.KernelRfl
namespace Go.Proofs.Ytgaoplbocjadaaa
/- THE CELL 'sum', in the pinned program and in every row, IS THE sha256 OF THE DUMP (.gsa) THAT YtgaoplbocjadaaaProg.lean LOADS. Nothing in Lean hashes anything: it is a label: what it is worth is what the hold of that sum in a sandbox is worth. -/
noncomputable def Try.pinned : Pinned := { name := "ytgaoplbocjadaaa", sum := "ecbba15eec6e044e9ffd12fbc6651439bb74e9fb2cb6f17c33614ebe93dbb04e", checked := Try.checked }
namespace Rows
def none {H : Type} : Left H := { results := [], args := [] }

/-- 'tripwirelaw15.AreaStores': WHATEVER THE INPUT: true; the input reads as it did. -/
def areaStoresSpec : ChangeSpec := { name := "areaStores", fn := fun _ => fun
  | [d1, d2, d3] => { results := [.lit (.bool true)], args := [d1, d2, d3] }
  | _ => none }
def areaStoresRow : OpenClaim := { program := "ytgaoplbocjadaaa", sum := "ecbba15eec6e044e9ffd12fbc6651439bb74e9fb2cb6f17c33614ebe93dbb04e", func := "tripwire/tripwirelaw15.AreaStores", spec := "areaStores", inPlace := ["slices.overlaps[tripwire/shelf.row[int, tripwire/dict.entry]]"], unfollowed := true, recurses := true, apart := false }
def AreaStoresSaid : Prop := areaStoresRow.holds Try.pinned (OpenSpec.ofChange areaStoresSpec)

/-- ITS FALSE NEIGHBOUR: 'it returns false'. Refute it at one input. -/
def areaStoresWrong : ChangeSpec := { name := "areaStores", fn := fun _ => fun
  | [d1, d2, d3] => { results := [.lit (.bool false)], args := [d1, d2, d3] }
  | _ => none }
def AreaStoresWrongFalsely : Prop := areaStoresRow.holds Try.pinned (OpenSpec.ofChange areaStoresWrong)

/-- 'tripwirelaw15.AreaChannels': WHATEVER THE INPUT: true; the input reads as it did. -/
def areaChannelsSpec : ChangeSpec := { name := "areaChannels", fn := fun _ => fun
  | [d1, d2] => { results := [.lit (.bool true)], args := [d1, d2] }
  | _ => none }
def areaChannelsRow : OpenClaim := { program := "ytgaoplbocjadaaa", sum := "ecbba15eec6e044e9ffd12fbc6651439bb74e9fb2cb6f17c33614ebe93dbb04e", func := "tripwire/tripwirelaw15.AreaChannels", spec := "areaChannels", inPlace := ["slices.overlaps[tripwire/shelf.row[int, tripwire/dict.entry]]"], unfollowed := true, recurses := true, apart := false }
def AreaChannelsSaid : Prop := areaChannelsRow.holds Try.pinned (OpenSpec.ofChange areaChannelsSpec)

/-- ITS FALSE NEIGHBOUR: 'it returns false'. Refute it at one input. -/
def areaChannelsWrong : ChangeSpec := { name := "areaChannels", fn := fun _ => fun
  | [d1, d2] => { results := [.lit (.bool false)], args := [d1, d2] }
  | _ => none }
def AreaChannelsWrongFalsely : Prop := areaChannelsRow.holds Try.pinned (OpenSpec.ofChange areaChannelsWrong)

/-- 'tripwirelaw25.PmapPacks': WHATEVER THE INPUT: true; the input reads as it did. -/
def pmapPacksSpec : ChangeSpec := { name := "pmapPacks", fn := fun _ => fun
  | [d1, d2] => { results := [.lit (.bool true)], args := [d1, d2] }
  | _ => none }
def pmapPacksRow : OpenClaim := { program := "ytgaoplbocjadaaa", sum := "ecbba15eec6e044e9ffd12fbc6651439bb74e9fb2cb6f17c33614ebe93dbb04e", func := "tripwire/tripwirelaw25.PmapPacks", spec := "pmapPacks", inPlace := ["slices.overlaps[tripwire/shelf.row[int, tripwire/dict.entry]]"], unfollowed := true, recurses := true, apart := false }
def PmapPacksSaid : Prop := pmapPacksRow.holds Try.pinned (OpenSpec.ofChange pmapPacksSpec)

/-- ITS FALSE NEIGHBOUR: 'it returns false'. Refute it at one input. -/
def pmapPacksWrong : ChangeSpec := { name := "pmapPacks", fn := fun _ => fun
  | [d1, d2] => { results := [.lit (.bool false)], args := [d1, d2] }
  | _ => none }
def PmapPacksWrongFalsely : Prop := pmapPacksRow.holds Try.pinned (OpenSpec.ofChange pmapPacksWrong)

/-- 'tripwirelaw25.PmapUnpacks': WHATEVER THE INPUT: true; the input reads as it did. -/
def pmapUnpacksSpec : ChangeSpec := { name := "pmapUnpacks", fn := fun _ => fun
  | [d1, d2] => { results := [.lit (.bool true)], args := [d1, d2] }
  | _ => none }
def pmapUnpacksRow : OpenClaim := { program := "ytgaoplbocjadaaa", sum := "ecbba15eec6e044e9ffd12fbc6651439bb74e9fb2cb6f17c33614ebe93dbb04e", func := "tripwire/tripwirelaw25.PmapUnpacks", spec := "pmapUnpacks", inPlace := ["slices.overlaps[tripwire/shelf.row[int, tripwire/dict.entry]]"], unfollowed := true, recurses := true, apart := false }
def PmapUnpacksSaid : Prop := pmapUnpacksRow.holds Try.pinned (OpenSpec.ofChange pmapUnpacksSpec)

/-- ITS FALSE NEIGHBOUR: 'it returns false'. Refute it at one input. -/
def pmapUnpacksWrong : ChangeSpec := { name := "pmapUnpacks", fn := fun _ => fun
  | [d1, d2] => { results := [.lit (.bool false)], args := [d1, d2] }
  | _ => none }
def PmapUnpacksWrongFalsely : Prop := pmapUnpacksRow.holds Try.pinned (OpenSpec.ofChange pmapUnpacksWrong)

/-- 'tripwirelaw25.PmapBack': WHATEVER THE INPUT: true; the input reads as it did. -/
def pmapBackSpec : ChangeSpec := { name := "pmapBack", fn := fun _ => fun
  | [d1, d2, d3] => { results := [.lit (.bool true)], args := [d1, d2, d3] }
  | _ => none }
def pmapBackRow : OpenClaim := { program := "ytgaoplbocjadaaa", sum := "ecbba15eec6e044e9ffd12fbc6651439bb74e9fb2cb6f17c33614ebe93dbb04e", func := "tripwire/tripwirelaw25.PmapBack", spec := "pmapBack", inPlace := ["slices.overlaps[tripwire/shelf.row[int, tripwire/dict.entry]]"], unfollowed := true, recurses := true, apart := false }
def PmapBackSaid : Prop := pmapBackRow.holds Try.pinned (OpenSpec.ofChange pmapBackSpec)

/-- ITS FALSE NEIGHBOUR: 'it returns false'. Refute it at one input. -/
def pmapBackWrong : ChangeSpec := { name := "pmapBack", fn := fun _ => fun
  | [d1, d2, d3] => { results := [.lit (.bool false)], args := [d1, d2, d3] }
  | _ => none }
def PmapBackWrongFalsely : Prop := pmapBackRow.holds Try.pinned (OpenSpec.ofChange pmapBackWrong)

/-- 'tripwirelaw26.PdoSends': WHATEVER THE INPUT: true; the input reads as it did. -/
def pdoSendsSpec : ChangeSpec := { name := "pdoSends", fn := fun _ => fun
  | [d1, d2, d3] => { results := [.lit (.bool true)], args := [d1, d2, d3] }
  | _ => none }
def pdoSendsRow : OpenClaim := { program := "ytgaoplbocjadaaa", sum := "ecbba15eec6e044e9ffd12fbc6651439bb74e9fb2cb6f17c33614ebe93dbb04e", func := "tripwire/tripwirelaw26.PdoSends", spec := "pdoSends", inPlace := ["slices.overlaps[tripwire/shelf.row[int, tripwire/dict.entry]]"], unfollowed := true, recurses := true, apart := false }
def PdoSendsSaid : Prop := pdoSendsRow.holds Try.pinned (OpenSpec.ofChange pdoSendsSpec)

/-- ITS FALSE NEIGHBOUR: 'it returns false'. Refute it at one input. -/
def pdoSendsWrong : ChangeSpec := { name := "pdoSends", fn := fun _ => fun
  | [d1, d2, d3] => { results := [.lit (.bool false)], args := [d1, d2, d3] }
  | _ => none }
def PdoSendsWrongFalsely : Prop := pdoSendsRow.holds Try.pinned (OpenSpec.ofChange pdoSendsWrong)

/- THE SECOND FORM. 'bulk': how many values and letters a reading holds, each counted each time it is reached (what is shared counts as often as it is met; a slice's spare places count too). A statement '..UptoSaid' is the law's where the arguments, and the package variables that the reading takes, are together of bulk at most 1048576: NARROWER than '..Said'. Prove '..Said' where nothing that the law and all that it calls make is longer than what came in: it says more and counts as full. Else prove '..UptoSaid'. A law counts once. -/
mutual
def uptoBulk {H : Type} : DataW H → Nat
  | .lit (.string bytes) => bytes.length + 1
  | .lit _ => 1
  | .nil => 1
  | .ptr d => uptoBulk d + 1
  | .slice elems spare => uptoBulkAll elems + uptoBulkAll spare + 1
  | .agg parts => uptoBulkAll parts + 1
  | .iface _ d => uptoBulk d + 1
  | .map entries => uptoBulkEntries entries + 1
  | .held _ => 1
def uptoBulkAll {H : Type} : List (DataW H) → Nat
  | [] => 0
  | d :: r => uptoBulk d + uptoBulkAll r
def uptoBulkEntries {H : Type} : List (Lit × DataW H) → Nat
  | [] => 0
  | x :: r => uptoBulkEntry x + uptoBulkEntries r
def uptoBulkEntry {H : Type} : Lit × DataW H → Nat
  | (.string bytes, d) => bytes.length + uptoBulk d + 1
  | (_, d) => uptoBulk d + 1
 end
def uptoSmall : (H : Type) → List (DataW H) → Bool := fun _ ds => decide (uptoBulkAll ds ≤ 1048576)
def OpenSpec.upto (s : _root_.Go.ChangeSpec) : _root_.Go.OpenSpec := { _root_.Go.OpenSpec.ofChange s with cond := some uptoSmall }

/-- 'tripwirelaw15.AreaStores', WHERE WHAT IT READS IS OF BULK AT MOST 1048576: true; the input reads as it did. -/
def areaStoresUptoRow : OpenClaim := { program := "ytgaoplbocjadaaa", sum := "ecbba15eec6e044e9ffd12fbc6651439bb74e9fb2cb6f17c33614ebe93dbb04e", func := "tripwire/tripwirelaw15.AreaStores", spec := "areaStores", inPlace := ["slices.overlaps[tripwire/shelf.row[int, tripwire/dict.entry]]"], unfollowed := true, recurses := true, apart := false, narrowed := true }
def AreaStoresUptoSaid : Prop := areaStoresUptoRow.holds Try.pinned (OpenSpec.upto areaStoresSpec)

/-- 'tripwirelaw15.AreaChannels', WHERE WHAT IT READS IS OF BULK AT MOST 1048576: true; the input reads as it did. -/
def areaChannelsUptoRow : OpenClaim := { program := "ytgaoplbocjadaaa", sum := "ecbba15eec6e044e9ffd12fbc6651439bb74e9fb2cb6f17c33614ebe93dbb04e", func := "tripwire/tripwirelaw15.AreaChannels", spec := "areaChannels", inPlace := ["slices.overlaps[tripwire/shelf.row[int, tripwire/dict.entry]]"], unfollowed := true, recurses := true, apart := false, narrowed := true }
def AreaChannelsUptoSaid : Prop := areaChannelsUptoRow.holds Try.pinned (OpenSpec.upto areaChannelsSpec)

/-- 'tripwirelaw25.PmapPacks', WHERE WHAT IT READS IS OF BULK AT MOST 1048576: true; the input reads as it did. -/
def pmapPacksUptoRow : OpenClaim := { program := "ytgaoplbocjadaaa", sum := "ecbba15eec6e044e9ffd12fbc6651439bb74e9fb2cb6f17c33614ebe93dbb04e", func := "tripwire/tripwirelaw25.PmapPacks", spec := "pmapPacks", inPlace := ["slices.overlaps[tripwire/shelf.row[int, tripwire/dict.entry]]"], unfollowed := true, recurses := true, apart := false, narrowed := true }
def PmapPacksUptoSaid : Prop := pmapPacksUptoRow.holds Try.pinned (OpenSpec.upto pmapPacksSpec)

/-- 'tripwirelaw25.PmapUnpacks', WHERE WHAT IT READS IS OF BULK AT MOST 1048576: true; the input reads as it did. -/
def pmapUnpacksUptoRow : OpenClaim := { program := "ytgaoplbocjadaaa", sum := "ecbba15eec6e044e9ffd12fbc6651439bb74e9fb2cb6f17c33614ebe93dbb04e", func := "tripwire/tripwirelaw25.PmapUnpacks", spec := "pmapUnpacks", inPlace := ["slices.overlaps[tripwire/shelf.row[int, tripwire/dict.entry]]"], unfollowed := true, recurses := true, apart := false, narrowed := true }
def PmapUnpacksUptoSaid : Prop := pmapUnpacksUptoRow.holds Try.pinned (OpenSpec.upto pmapUnpacksSpec)

/-- 'tripwirelaw25.PmapBack', WHERE WHAT IT READS IS OF BULK AT MOST 1048576: true; the input reads as it did. -/
def pmapBackUptoRow : OpenClaim := { program := "ytgaoplbocjadaaa", sum := "ecbba15eec6e044e9ffd12fbc6651439bb74e9fb2cb6f17c33614ebe93dbb04e", func := "tripwire/tripwirelaw25.PmapBack", spec := "pmapBack", inPlace := ["slices.overlaps[tripwire/shelf.row[int, tripwire/dict.entry]]"], unfollowed := true, recurses := true, apart := false, narrowed := true }
def PmapBackUptoSaid : Prop := pmapBackUptoRow.holds Try.pinned (OpenSpec.upto pmapBackSpec)

/-- 'tripwirelaw26.PdoSends', WHERE WHAT IT READS IS OF BULK AT MOST 1048576: true; the input reads as it did. -/
def pdoSendsUptoRow : OpenClaim := { program := "ytgaoplbocjadaaa", sum := "ecbba15eec6e044e9ffd12fbc6651439bb74e9fb2cb6f17c33614ebe93dbb04e", func := "tripwire/tripwirelaw26.PdoSends", spec := "pdoSends", inPlace := ["slices.overlaps[tripwire/shelf.row[int, tripwire/dict.entry]]"], unfollowed := true, recurses := true, apart := false, narrowed := true }
def PdoSendsUptoSaid : Prop := pdoSendsUptoRow.holds Try.pinned (OpenSpec.upto pdoSendsSpec)

end Rows
end Go.Proofs.Ytgaoplbocjadaaa
