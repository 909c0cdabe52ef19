/-
  No cell of these rows narrows 'for every input' (looked for: loops, veiled, ifaces, maps, wideKeys, modest, calm, conditions, laid).
  DERIVED. THE GIVEN ROWS OF THIS SEAT. 6 by the template 'for every input the law returns true; each argument reads behind the call as it read before'; 0 by the template 'total and deterministic' (their statements: YtdmcdghcmjmidaaTotals.lean).
  GIVEN WITH THE SEED: the statements are not yours to turn. If you find one false, say at which input.
  Laid BY PROGRAM, IN A SANDBOX (cutbox-rows.mjs): the forced cells as the released guide's own fill.sh prints them over the translation 902e5f34f9d53615… (all of the seat's roots in one cut). By AI agents, Wed Nov 11 2026. No macro, syntax, notation, axiom, sorry.
-/
import Derived.Test.YtdmcdghcmjmidaaChecked
import GoSem.Claim
import GoSem.ClaimJoined
import GoSem.ClaimMapViews
import Derived.JoinedTies
import Derived.KernelRfl
namespace Go.Proofs.Ytdmcdghcmjmidaa
/- THE CELL 'sum', in the pinned program and in every row, IS THE sha256 OF THE DUMP (.gsa) THAT YtdmcdghcmjmidaaProg.lean LOADS. Nothing in Lean hashes anything: it is a label: what it is worth is what the hold of that sum in a sandbox is worth. -/
noncomputable def Try.pinned : Pinned := { name := "ytdmcdghcmjmidaa", sum := "902e5f34f9d536154fa7e2a173e31847f56a0715a58b8c0f7625e55f95f41c4c", checked := Try.checked }
namespace Rows
def none {H : Type} : Left H := { results := [], args := [] }

/-- 'laws.FnExactIsRack': WHATEVER THE INPUT: true; the input reads as it did. -/
def fnExactIsRackSpec : ChangeSpec := { name := "fnExactIsRack", fn := fun _ => fun
  | [d] => { results := [.lit (.bool true)], args := [d] }
  | _ => none }
def fnExactIsRackRow : OpenClaim := { program := "ytdmcdghcmjmidaa", sum := "902e5f34f9d536154fa7e2a173e31847f56a0715a58b8c0f7625e55f95f41c4c", func := "loop.example/g01215/laws.FnExactIsRack", spec := "fnExactIsRack", unfollowed := true, recurses := true, apart := false }
def FnExactIsRackSaid : Prop := fnExactIsRackRow.holds Try.pinned (OpenSpec.ofChange fnExactIsRackSpec)

/-- ITS FALSE NEIGHBOUR: 'it returns false'. Refute it at one input. -/
def fnExactIsRackWrong : ChangeSpec := { name := "fnExactIsRack", fn := fun _ => fun
  | [d] => { results := [.lit (.bool false)], args := [d] }
  | _ => none }
def FnExactIsRackWrongFalsely : Prop := fnExactIsRackRow.holds Try.pinned (OpenSpec.ofChange fnExactIsRackWrong)

/-- 'laws.FnExactLayersOf': WHATEVER THE INPUT: true; the input reads as it did. -/
def fnExactLayersOfSpec : ChangeSpec := { name := "fnExactLayersOf", fn := fun _ => fun
  | [d1, d2] => { results := [.lit (.bool true)], args := [d1, d2] }
  | _ => none }
def fnExactLayersOfRow : OpenClaim := { program := "ytdmcdghcmjmidaa", sum := "902e5f34f9d536154fa7e2a173e31847f56a0715a58b8c0f7625e55f95f41c4c", func := "loop.example/g01215/laws.FnExactLayersOf", spec := "fnExactLayersOf", unfollowed := true, recurses := true, apart := false }
def FnExactLayersOfSaid : Prop := fnExactLayersOfRow.holds Try.pinned (OpenSpec.ofChange fnExactLayersOfSpec)

/-- ITS FALSE NEIGHBOUR: 'it returns false'. Refute it at one input. -/
def fnExactLayersOfWrong : ChangeSpec := { name := "fnExactLayersOf", fn := fun _ => fun
  | [d1, d2] => { results := [.lit (.bool false)], args := [d1, d2] }
  | _ => none }
def FnExactLayersOfWrongFalsely : Prop := fnExactLayersOfRow.holds Try.pinned (OpenSpec.ofChange fnExactLayersOfWrong)

/-- 'laws.FnExactTopOf': WHATEVER THE INPUT: true; the input reads as it did. -/
def fnExactTopOfSpec : ChangeSpec := { name := "fnExactTopOf", fn := fun _ => fun
  | [d1, d2] => { results := [.lit (.bool true)], args := [d1, d2] }
  | _ => none }
def fnExactTopOfRow : OpenClaim := { program := "ytdmcdghcmjmidaa", sum := "902e5f34f9d536154fa7e2a173e31847f56a0715a58b8c0f7625e55f95f41c4c", func := "loop.example/g01215/laws.FnExactTopOf", spec := "fnExactTopOf", unfollowed := true, recurses := true, apart := false }
def FnExactTopOfSaid : Prop := fnExactTopOfRow.holds Try.pinned (OpenSpec.ofChange fnExactTopOfSpec)

/-- ITS FALSE NEIGHBOUR: 'it returns false'. Refute it at one input. -/
def fnExactTopOfWrong : ChangeSpec := { name := "fnExactTopOf", fn := fun _ => fun
  | [d1, d2] => { results := [.lit (.bool false)], args := [d1, d2] }
  | _ => none }
def FnExactTopOfWrongFalsely : Prop := fnExactTopOfRow.holds Try.pinned (OpenSpec.ofChange fnExactTopOfWrong)

/-- 'laws.FnExactRunsOf': WHATEVER THE INPUT: true; the input reads as it did. -/
def fnExactRunsOfSpec : ChangeSpec := { name := "fnExactRunsOf", fn := fun _ => fun
  | [d1, d2] => { results := [.lit (.bool true)], args := [d1, d2] }
  | _ => none }
def fnExactRunsOfRow : OpenClaim := { program := "ytdmcdghcmjmidaa", sum := "902e5f34f9d536154fa7e2a173e31847f56a0715a58b8c0f7625e55f95f41c4c", func := "loop.example/g01215/laws.FnExactRunsOf", spec := "fnExactRunsOf", unfollowed := true, recurses := true, apart := false }
def FnExactRunsOfSaid : Prop := fnExactRunsOfRow.holds Try.pinned (OpenSpec.ofChange fnExactRunsOfSpec)

/-- ITS FALSE NEIGHBOUR: 'it returns false'. Refute it at one input. -/
def fnExactRunsOfWrong : ChangeSpec := { name := "fnExactRunsOf", fn := fun _ => fun
  | [d1, d2] => { results := [.lit (.bool false)], args := [d1, d2] }
  | _ => none }
def FnExactRunsOfWrongFalsely : Prop := fnExactRunsOfRow.holds Try.pinned (OpenSpec.ofChange fnExactRunsOfWrong)

/-- 'laws.FnExactCanPour': WHATEVER THE INPUT: true; the input reads as it did. -/
def fnExactCanPourSpec : ChangeSpec := { name := "fnExactCanPour", fn := fun _ => fun
  | [d1, d2, d3] => { results := [.lit (.bool true)], args := [d1, d2, d3] }
  | _ => none }
def fnExactCanPourRow : OpenClaim := { program := "ytdmcdghcmjmidaa", sum := "902e5f34f9d536154fa7e2a173e31847f56a0715a58b8c0f7625e55f95f41c4c", func := "loop.example/g01215/laws.FnExactCanPour", spec := "fnExactCanPour", unfollowed := true, recurses := true, apart := false }
def FnExactCanPourSaid : Prop := fnExactCanPourRow.holds Try.pinned (OpenSpec.ofChange fnExactCanPourSpec)

/-- ITS FALSE NEIGHBOUR: 'it returns false'. Refute it at one input. -/
def fnExactCanPourWrong : ChangeSpec := { name := "fnExactCanPour", fn := fun _ => fun
  | [d1, d2, d3] => { results := [.lit (.bool false)], args := [d1, d2, d3] }
  | _ => none }
def FnExactCanPourWrongFalsely : Prop := fnExactCanPourRow.holds Try.pinned (OpenSpec.ofChange fnExactCanPourWrong)

/-- 'laws.FnExactPour': WHATEVER THE INPUT: true; the input reads as it did. -/
def fnExactPourSpec : ChangeSpec := { name := "fnExactPour", fn := fun _ => fun
  | [d1, d2, d3] => { results := [.lit (.bool true)], args := [d1, d2, d3] }
  | _ => none }
def fnExactPourRow : OpenClaim := { program := "ytdmcdghcmjmidaa", sum := "902e5f34f9d536154fa7e2a173e31847f56a0715a58b8c0f7625e55f95f41c4c", func := "loop.example/g01215/laws.FnExactPour", spec := "fnExactPour", unfollowed := true, recurses := true, apart := false }
def FnExactPourSaid : Prop := fnExactPourRow.holds Try.pinned (OpenSpec.ofChange fnExactPourSpec)

/-- ITS FALSE NEIGHBOUR: 'it returns false'. Refute it at one input. -/
def fnExactPourWrong : ChangeSpec := { name := "fnExactPour", fn := fun _ => fun
  | [d1, d2, d3] => { results := [.lit (.bool false)], args := [d1, d2, d3] }
  | _ => none }
def FnExactPourWrongFalsely : Prop := fnExactPourRow.holds Try.pinned (OpenSpec.ofChange fnExactPourWrong)

/- THE SECOND FORM. 'bulk': how many values and letters a reading holds, each counted each time it is reached (what is shared counts as often as it is met; a slice's spare places count too). A statement '..UptoSaid' is the law's where the arguments, and the package variables that the reading takes, are together of bulk at most 1048576: NARROWER than '..Said'. Prove '..Said' where nothing that the law and all that it calls make is longer than what came in: it says more and counts as full. Else prove '..UptoSaid'. A law counts once. -/
mutual
def uptoBulk {H : Type} : DataW H → Nat
  | .lit (.string bytes) => bytes.length + 1
  | .lit _ => 1
  | .nil => 1
  | .ptr d => uptoBulk d + 1
  | .slice elems spare => uptoBulkAll elems + uptoBulkAll spare + 1
  | .agg parts => uptoBulkAll parts + 1
  | .iface _ d => uptoBulk d + 1
  | .map entries => uptoBulkEntries entries + 1
  | .held _ => 1
def uptoBulkAll {H : Type} : List (DataW H) → Nat
  | [] => 0
  | d :: r => uptoBulk d + uptoBulkAll r
def uptoBulkEntries {H : Type} : List (Lit × DataW H) → Nat
  | [] => 0
  | x :: r => uptoBulkEntry x + uptoBulkEntries r
def uptoBulkEntry {H : Type} : Lit × DataW H → Nat
  | (.string bytes, d) => bytes.length + uptoBulk d + 1
  | (_, d) => uptoBulk d + 1
 end
def uptoSmall : (H : Type) → List (DataW H) → Bool := fun _ ds => decide (uptoBulkAll ds ≤ 1048576)
def OpenSpec.upto (s : _root_.Go.ChangeSpec) : _root_.Go.OpenSpec := { _root_.Go.OpenSpec.ofChange s with cond := some uptoSmall }

/-- 'laws.FnExactIsRack', WHERE WHAT IT READS IS OF BULK AT MOST 1048576: true; the input reads as it did. -/
def fnExactIsRackUptoRow : OpenClaim := { program := "ytdmcdghcmjmidaa", sum := "902e5f34f9d536154fa7e2a173e31847f56a0715a58b8c0f7625e55f95f41c4c", func := "loop.example/g01215/laws.FnExactIsRack", spec := "fnExactIsRack", unfollowed := true, recurses := true, apart := false, narrowed := true }
def FnExactIsRackUptoSaid : Prop := fnExactIsRackUptoRow.holds Try.pinned (OpenSpec.upto fnExactIsRackSpec)

/-- 'laws.FnExactLayersOf', WHERE WHAT IT READS IS OF BULK AT MOST 1048576: true; the input reads as it did. -/
def fnExactLayersOfUptoRow : OpenClaim := { program := "ytdmcdghcmjmidaa", sum := "902e5f34f9d536154fa7e2a173e31847f56a0715a58b8c0f7625e55f95f41c4c", func := "loop.example/g01215/laws.FnExactLayersOf", spec := "fnExactLayersOf", unfollowed := true, recurses := true, apart := false, narrowed := true }
def FnExactLayersOfUptoSaid : Prop := fnExactLayersOfUptoRow.holds Try.pinned (OpenSpec.upto fnExactLayersOfSpec)

/-- 'laws.FnExactTopOf', WHERE WHAT IT READS IS OF BULK AT MOST 1048576: true; the input reads as it did. -/
def fnExactTopOfUptoRow : OpenClaim := { program := "ytdmcdghcmjmidaa", sum := "902e5f34f9d536154fa7e2a173e31847f56a0715a58b8c0f7625e55f95f41c4c", func := "loop.example/g01215/laws.FnExactTopOf", spec := "fnExactTopOf", unfollowed := true, recurses := true, apart := false, narrowed := true }
def FnExactTopOfUptoSaid : Prop := fnExactTopOfUptoRow.holds Try.pinned (OpenSpec.upto fnExactTopOfSpec)

/-- 'laws.FnExactRunsOf', WHERE WHAT IT READS IS OF BULK AT MOST 1048576: true; the input reads as it did. -/
def fnExactRunsOfUptoRow : OpenClaim := { program := "ytdmcdghcmjmidaa", sum := "902e5f34f9d536154fa7e2a173e31847f56a0715a58b8c0f7625e55f95f41c4c", func := "loop.example/g01215/laws.FnExactRunsOf", spec := "fnExactRunsOf", unfollowed := true, recurses := true, apart := false, narrowed := true }
def FnExactRunsOfUptoSaid : Prop := fnExactRunsOfUptoRow.holds Try.pinned (OpenSpec.upto fnExactRunsOfSpec)

/-- 'laws.FnExactCanPour', WHERE WHAT IT READS IS OF BULK AT MOST 1048576: true; the input reads as it did. -/
def fnExactCanPourUptoRow : OpenClaim := { program := "ytdmcdghcmjmidaa", sum := "902e5f34f9d536154fa7e2a173e31847f56a0715a58b8c0f7625e55f95f41c4c", func := "loop.example/g01215/laws.FnExactCanPour", spec := "fnExactCanPour", unfollowed := true, recurses := true, apart := false, narrowed := true }
def FnExactCanPourUptoSaid : Prop := fnExactCanPourUptoRow.holds Try.pinned (OpenSpec.upto fnExactCanPourSpec)

/-- 'laws.FnExactPour', WHERE WHAT IT READS IS OF BULK AT MOST 1048576: true; the input reads as it did. -/
def fnExactPourUptoRow : OpenClaim := { program := "ytdmcdghcmjmidaa", sum := "902e5f34f9d536154fa7e2a173e31847f56a0715a58b8c0f7625e55f95f41c4c", func := "loop.example/g01215/laws.FnExactPour", spec := "fnExactPour", unfollowed := true, recurses := true, apart := false, narrowed := true }
def FnExactPourUptoSaid : Prop := fnExactPourUptoRow.holds Try.pinned (OpenSpec.upto fnExactPourSpec)

end Rows
end Go.Proofs.Ytdmcdghcmjmidaa
