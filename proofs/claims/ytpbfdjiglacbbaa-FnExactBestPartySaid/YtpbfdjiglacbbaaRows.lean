/-
  No cell of these rows narrows 'for every input' (looked for: loops, veiled, ifaces, maps, wideKeys, modest, calm, conditions, laid).
  DERIVED. THE GIVEN ROWS OF THIS SEAT. 6 by the template 'for every input the law returns true; each argument reads behind the call as it read before'; 0 by the template 'total and deterministic' (their statements: YtpbfdjiglacbbaaTotals.lean).
  GIVEN WITH THE SEED: the statements are not yours to turn. If you find one false, say at which input.
  Laid BY PROGRAM, IN A SANDBOX (cutbox-rows.mjs): the forced cells as the released guide's own fill.sh prints them over the translation 7ec4af0fe599c8a7… (all of the seat's roots in one cut). By AI agents, Wed Nov 11 2026. No macro, syntax, notation, axiom, sorry.
-/
import Derived.Test.YtpbfdjiglacbbaaChecked
import GoSem.Claim
import GoSem.ClaimJoined
import GoSem.ClaimMapViews
import Derived.JoinedTies
import Derived.KernelRfl
namespace Go.Proofs.Ytpbfdjiglacbbaa
/- THE CELL 'sum', in the pinned program and in every row, IS THE sha256 OF THE DUMP (.gsa) THAT YtpbfdjiglacbbaaProg.lean LOADS. Nothing in Lean hashes anything: it is a label: what it is worth is what the hold of that sum in a sandbox is worth. -/
noncomputable def Try.pinned : Pinned := { name := "ytpbfdjiglacbbaa", sum := "7ec4af0fe599c8a75e9ac593c79e198f29a31ea7ce310065a47c546e513d7187", checked := Try.checked }
namespace Rows
def none {H : Type} : Left H := { results := [], args := [] }

/-- 'laws.FnExactEndValue': WHATEVER THE INPUT: true; the input reads as it did. -/
def fnExactEndValueSpec : ChangeSpec := { name := "fnExactEndValue", fn := fun _ => fun
  | [d1, d2] => { results := [.lit (.bool true)], args := [d1, d2] }
  | _ => none }
def fnExactEndValueRow : OpenClaim := { program := "ytpbfdjiglacbbaa", sum := "7ec4af0fe599c8a75e9ac593c79e198f29a31ea7ce310065a47c546e513d7187", func := "loop.example/g01215/laws.FnExactEndValue", spec := "fnExactEndValue", unfollowed := true, recurses := true, plainKeys := false, apart := false }
def FnExactEndValueSaid : Prop := fnExactEndValueRow.holds Try.pinned (OpenSpec.ofChange fnExactEndValueSpec)

/-- ITS FALSE NEIGHBOUR: 'it returns false'. Refute it at one input. -/
def fnExactEndValueWrong : ChangeSpec := { name := "fnExactEndValue", fn := fun _ => fun
  | [d1, d2] => { results := [.lit (.bool false)], args := [d1, d2] }
  | _ => none }
def FnExactEndValueWrongFalsely : Prop := fnExactEndValueRow.holds Try.pinned (OpenSpec.ofChange fnExactEndValueWrong)

/-- 'laws.FnExactEndPours': WHATEVER THE INPUT: true; the input reads as it did. -/
def fnExactEndPoursSpec : ChangeSpec := { name := "fnExactEndPours", fn := fun _ => fun
  | [d1, d2] => { results := [.lit (.bool true)], args := [d1, d2] }
  | _ => none }
def fnExactEndPoursRow : OpenClaim := { program := "ytpbfdjiglacbbaa", sum := "7ec4af0fe599c8a75e9ac593c79e198f29a31ea7ce310065a47c546e513d7187", func := "loop.example/g01215/laws.FnExactEndPours", spec := "fnExactEndPours", unfollowed := true, recurses := true, plainKeys := false, apart := false }
def FnExactEndPoursSaid : Prop := fnExactEndPoursRow.holds Try.pinned (OpenSpec.ofChange fnExactEndPoursSpec)

/-- ITS FALSE NEIGHBOUR: 'it returns false'. Refute it at one input. -/
def fnExactEndPoursWrong : ChangeSpec := { name := "fnExactEndPours", fn := fun _ => fun
  | [d1, d2] => { results := [.lit (.bool false)], args := [d1, d2] }
  | _ => none }
def FnExactEndPoursWrongFalsely : Prop := fnExactEndPoursRow.holds Try.pinned (OpenSpec.ofChange fnExactEndPoursWrong)

/-- 'laws.FnExactTubeValue': WHATEVER THE INPUT: true; the input reads as it did. -/
def fnExactTubeValueSpec : ChangeSpec := { name := "fnExactTubeValue", fn := fun _ => fun
  | [d1, d2] => { results := [.lit (.bool true)], args := [d1, d2] }
  | _ => none }
def fnExactTubeValueRow : OpenClaim := { program := "ytpbfdjiglacbbaa", sum := "7ec4af0fe599c8a75e9ac593c79e198f29a31ea7ce310065a47c546e513d7187", func := "loop.example/g01215/laws.FnExactTubeValue", spec := "fnExactTubeValue", unfollowed := true, recurses := true, plainKeys := false, apart := false }
def FnExactTubeValueSaid : Prop := fnExactTubeValueRow.holds Try.pinned (OpenSpec.ofChange fnExactTubeValueSpec)

/-- ITS FALSE NEIGHBOUR: 'it returns false'. Refute it at one input. -/
def fnExactTubeValueWrong : ChangeSpec := { name := "fnExactTubeValue", fn := fun _ => fun
  | [d1, d2] => { results := [.lit (.bool false)], args := [d1, d2] }
  | _ => none }
def FnExactTubeValueWrongFalsely : Prop := fnExactTubeValueRow.holds Try.pinned (OpenSpec.ofChange fnExactTubeValueWrong)

/-- 'laws.FnExactTubePours': WHATEVER THE INPUT: true; the input reads as it did. -/
def fnExactTubePoursSpec : ChangeSpec := { name := "fnExactTubePours", fn := fun _ => fun
  | [d1, d2] => { results := [.lit (.bool true)], args := [d1, d2] }
  | _ => none }
def fnExactTubePoursRow : OpenClaim := { program := "ytpbfdjiglacbbaa", sum := "7ec4af0fe599c8a75e9ac593c79e198f29a31ea7ce310065a47c546e513d7187", func := "loop.example/g01215/laws.FnExactTubePours", spec := "fnExactTubePours", unfollowed := true, recurses := true, plainKeys := false, apart := false }
def FnExactTubePoursSaid : Prop := fnExactTubePoursRow.holds Try.pinned (OpenSpec.ofChange fnExactTubePoursSpec)

/-- ITS FALSE NEIGHBOUR: 'it returns false'. Refute it at one input. -/
def fnExactTubePoursWrong : ChangeSpec := { name := "fnExactTubePours", fn := fun _ => fun
  | [d1, d2] => { results := [.lit (.bool false)], args := [d1, d2] }
  | _ => none }
def FnExactTubePoursWrongFalsely : Prop := fnExactTubePoursRow.holds Try.pinned (OpenSpec.ofChange fnExactTubePoursWrong)

/-- 'laws.FnExactFirstBest': WHATEVER THE INPUT: true; the input reads as it did. -/
def fnExactFirstBestSpec : ChangeSpec := { name := "fnExactFirstBest", fn := fun _ => fun
  | [d1, d2] => { results := [.lit (.bool true)], args := [d1, d2] }
  | _ => none }
def fnExactFirstBestRow : OpenClaim := { program := "ytpbfdjiglacbbaa", sum := "7ec4af0fe599c8a75e9ac593c79e198f29a31ea7ce310065a47c546e513d7187", func := "loop.example/g01215/laws.FnExactFirstBest", spec := "fnExactFirstBest", unfollowed := true, recurses := true, plainKeys := false, apart := false }
def FnExactFirstBestSaid : Prop := fnExactFirstBestRow.holds Try.pinned (OpenSpec.ofChange fnExactFirstBestSpec)

/-- ITS FALSE NEIGHBOUR: 'it returns false'. Refute it at one input. -/
def fnExactFirstBestWrong : ChangeSpec := { name := "fnExactFirstBest", fn := fun _ => fun
  | [d1, d2] => { results := [.lit (.bool false)], args := [d1, d2] }
  | _ => none }
def FnExactFirstBestWrongFalsely : Prop := fnExactFirstBestRow.holds Try.pinned (OpenSpec.ofChange fnExactFirstBestWrong)

/-- 'laws.FnExactBestParty': WHATEVER THE INPUT: true; the input reads as it did. -/
def fnExactBestPartySpec : ChangeSpec := { name := "fnExactBestParty", fn := fun _ => fun
  | [d1, d2] => { results := [.lit (.bool true)], args := [d1, d2] }
  | _ => none }
def fnExactBestPartyRow : OpenClaim := { program := "ytpbfdjiglacbbaa", sum := "7ec4af0fe599c8a75e9ac593c79e198f29a31ea7ce310065a47c546e513d7187", func := "loop.example/g01215/laws.FnExactBestParty", spec := "fnExactBestParty", unfollowed := true, recurses := true, plainKeys := false, apart := false }
def FnExactBestPartySaid : Prop := fnExactBestPartyRow.holds Try.pinned (OpenSpec.ofChange fnExactBestPartySpec)

/-- ITS FALSE NEIGHBOUR: 'it returns false'. Refute it at one input. -/
def fnExactBestPartyWrong : ChangeSpec := { name := "fnExactBestParty", fn := fun _ => fun
  | [d1, d2] => { results := [.lit (.bool false)], args := [d1, d2] }
  | _ => none }
def FnExactBestPartyWrongFalsely : Prop := fnExactBestPartyRow.holds Try.pinned (OpenSpec.ofChange fnExactBestPartyWrong)

/- THE SECOND FORM. 'bulk': how many values and letters a reading holds, each counted each time it is reached (what is shared counts as often as it is met; a slice's spare places count too). A statement '..UptoSaid' is the law's where the arguments, and the package variables that the reading takes, are together of bulk at most 1048576: NARROWER than '..Said'. Prove '..Said' where nothing that the law and all that it calls make is longer than what came in: it says more and counts as full. Else prove '..UptoSaid'. A law counts once. -/
mutual
def uptoBulk {H : Type} : DataW H → Nat
  | .lit (.string bytes) => bytes.length + 1
  | .lit _ => 1
  | .nil => 1
  | .ptr d => uptoBulk d + 1
  | .slice elems spare => uptoBulkAll elems + uptoBulkAll spare + 1
  | .agg parts => uptoBulkAll parts + 1
  | .iface _ d => uptoBulk d + 1
  | .map entries => uptoBulkEntries entries + 1
  | .held _ => 1
def uptoBulkAll {H : Type} : List (DataW H) → Nat
  | [] => 0
  | d :: r => uptoBulk d + uptoBulkAll r
def uptoBulkEntries {H : Type} : List (Lit × DataW H) → Nat
  | [] => 0
  | x :: r => uptoBulkEntry x + uptoBulkEntries r
def uptoBulkEntry {H : Type} : Lit × DataW H → Nat
  | (.string bytes, d) => bytes.length + uptoBulk d + 1
  | (_, d) => uptoBulk d + 1
 end
def uptoSmall : (H : Type) → List (DataW H) → Bool := fun _ ds => decide (uptoBulkAll ds ≤ 1048576)
def OpenSpec.upto (s : _root_.Go.ChangeSpec) : _root_.Go.OpenSpec := { _root_.Go.OpenSpec.ofChange s with cond := some uptoSmall }

/-- 'laws.FnExactEndValue', WHERE WHAT IT READS IS OF BULK AT MOST 1048576: true; the input reads as it did. -/
def fnExactEndValueUptoRow : OpenClaim := { program := "ytpbfdjiglacbbaa", sum := "7ec4af0fe599c8a75e9ac593c79e198f29a31ea7ce310065a47c546e513d7187", func := "loop.example/g01215/laws.FnExactEndValue", spec := "fnExactEndValue", unfollowed := true, recurses := true, plainKeys := false, apart := false, narrowed := true }
def FnExactEndValueUptoSaid : Prop := fnExactEndValueUptoRow.holds Try.pinned (OpenSpec.upto fnExactEndValueSpec)

/-- 'laws.FnExactEndPours', WHERE WHAT IT READS IS OF BULK AT MOST 1048576: true; the input reads as it did. -/
def fnExactEndPoursUptoRow : OpenClaim := { program := "ytpbfdjiglacbbaa", sum := "7ec4af0fe599c8a75e9ac593c79e198f29a31ea7ce310065a47c546e513d7187", func := "loop.example/g01215/laws.FnExactEndPours", spec := "fnExactEndPours", unfollowed := true, recurses := true, plainKeys := false, apart := false, narrowed := true }
def FnExactEndPoursUptoSaid : Prop := fnExactEndPoursUptoRow.holds Try.pinned (OpenSpec.upto fnExactEndPoursSpec)

/-- 'laws.FnExactTubeValue', WHERE WHAT IT READS IS OF BULK AT MOST 1048576: true; the input reads as it did. -/
def fnExactTubeValueUptoRow : OpenClaim := { program := "ytpbfdjiglacbbaa", sum := "7ec4af0fe599c8a75e9ac593c79e198f29a31ea7ce310065a47c546e513d7187", func := "loop.example/g01215/laws.FnExactTubeValue", spec := "fnExactTubeValue", unfollowed := true, recurses := true, plainKeys := false, apart := false, narrowed := true }
def FnExactTubeValueUptoSaid : Prop := fnExactTubeValueUptoRow.holds Try.pinned (OpenSpec.upto fnExactTubeValueSpec)

/-- 'laws.FnExactTubePours', WHERE WHAT IT READS IS OF BULK AT MOST 1048576: true; the input reads as it did. -/
def fnExactTubePoursUptoRow : OpenClaim := { program := "ytpbfdjiglacbbaa", sum := "7ec4af0fe599c8a75e9ac593c79e198f29a31ea7ce310065a47c546e513d7187", func := "loop.example/g01215/laws.FnExactTubePours", spec := "fnExactTubePours", unfollowed := true, recurses := true, plainKeys := false, apart := false, narrowed := true }
def FnExactTubePoursUptoSaid : Prop := fnExactTubePoursUptoRow.holds Try.pinned (OpenSpec.upto fnExactTubePoursSpec)

/-- 'laws.FnExactFirstBest', WHERE WHAT IT READS IS OF BULK AT MOST 1048576: true; the input reads as it did. -/
def fnExactFirstBestUptoRow : OpenClaim := { program := "ytpbfdjiglacbbaa", sum := "7ec4af0fe599c8a75e9ac593c79e198f29a31ea7ce310065a47c546e513d7187", func := "loop.example/g01215/laws.FnExactFirstBest", spec := "fnExactFirstBest", unfollowed := true, recurses := true, plainKeys := false, apart := false, narrowed := true }
def FnExactFirstBestUptoSaid : Prop := fnExactFirstBestUptoRow.holds Try.pinned (OpenSpec.upto fnExactFirstBestSpec)

/-- 'laws.FnExactBestParty', WHERE WHAT IT READS IS OF BULK AT MOST 1048576: true; the input reads as it did. -/
def fnExactBestPartyUptoRow : OpenClaim := { program := "ytpbfdjiglacbbaa", sum := "7ec4af0fe599c8a75e9ac593c79e198f29a31ea7ce310065a47c546e513d7187", func := "loop.example/g01215/laws.FnExactBestParty", spec := "fnExactBestParty", unfollowed := true, recurses := true, plainKeys := false, apart := false, narrowed := true }
def FnExactBestPartyUptoSaid : Prop := fnExactBestPartyUptoRow.holds Try.pinned (OpenSpec.upto fnExactBestPartySpec)

end Rows
end Go.Proofs.Ytpbfdjiglacbbaa
