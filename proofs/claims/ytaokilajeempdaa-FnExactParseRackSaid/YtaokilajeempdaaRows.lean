/-
  No cell of these rows narrows 'for every input' (looked for: loops, veiled, ifaces, maps, wideKeys, modest, calm, conditions, laid).
  DERIVED. THE GIVEN ROWS OF THIS SEAT. 5 by the template 'for every input the law returns true; each argument reads behind the call as it read before'; 0 by the template 'total and deterministic' (their statements: YtaokilajeempdaaTotals.lean).
  GIVEN WITH THE SEED: the statements are not yours to turn. If you find one false, say at which input.
  Laid BY PROGRAM, IN A SANDBOX (cutbox-rows.mjs): the forced cells as the released guide's own fill.sh prints them over the translation a85e46c4e8c54c3d… (all of the seat's roots in one cut). By AI agents, Wed Nov 11 2026. No macro, syntax, notation, axiom, sorry.
-/
import Derived.Test.YtaokilajeempdaaChecked
import GoSem.Claim
import GoSem.ClaimJoined
import GoSem.ClaimMapViews
import Derived.JoinedTies
import Derived.KernelRfl
namespace Go.Proofs.Ytaokilajeempdaa
/- THE CELL 'sum', in the pinned program and in every row, IS THE sha256 OF THE DUMP (.gsa) THAT YtaokilajeempdaaProg.lean LOADS. Nothing in Lean hashes anything: it is a label: what it is worth is what the hold of that sum in a sandbox is worth. -/
noncomputable def Try.pinned : Pinned := { name := "ytaokilajeempdaa", sum := "a85e46c4e8c54c3de22f854a9dc269136da4d404d90d01d6cd9f1cb4d78901e9", checked := Try.checked }
namespace Rows
def none {H : Type} : Left H := { results := [], args := [] }

/-- 'laws.FnExactRackText': WHATEVER THE INPUT: true; the input reads as it did. -/
def fnExactRackTextSpec : ChangeSpec := { name := "fnExactRackText", fn := fun _ => fun
  | [d] => { results := [.lit (.bool true)], args := [d] }
  | _ => none }
def fnExactRackTextRow : OpenClaim := { program := "ytaokilajeempdaa", sum := "a85e46c4e8c54c3de22f854a9dc269136da4d404d90d01d6cd9f1cb4d78901e9", func := "loop.example/g01215/laws.FnExactRackText", spec := "fnExactRackText", inPlace := ["internal/abi.NoEscape", "internal/bytealg.MakeNoZero"], unfollowed := true, recurses := true, apart := false }
def FnExactRackTextSaid : Prop := fnExactRackTextRow.holds Try.pinned (OpenSpec.ofChange fnExactRackTextSpec)

/-- ITS FALSE NEIGHBOUR: 'it returns false'. Refute it at one input. -/
def fnExactRackTextWrong : ChangeSpec := { name := "fnExactRackText", fn := fun _ => fun
  | [d] => { results := [.lit (.bool false)], args := [d] }
  | _ => none }
def FnExactRackTextWrongFalsely : Prop := fnExactRackTextRow.holds Try.pinned (OpenSpec.ofChange fnExactRackTextWrong)

/-- 'laws.FnExactParseRack': WHATEVER THE INPUT: true; the input reads as it did. -/
def fnExactParseRackSpec : ChangeSpec := { name := "fnExactParseRack", fn := fun _ => fun
  | [d] => { results := [.lit (.bool true)], args := [d] }
  | _ => none }
def fnExactParseRackRow : OpenClaim := { program := "ytaokilajeempdaa", sum := "a85e46c4e8c54c3de22f854a9dc269136da4d404d90d01d6cd9f1cb4d78901e9", func := "loop.example/g01215/laws.FnExactParseRack", spec := "fnExactParseRack", inPlace := ["internal/abi.NoEscape", "internal/bytealg.MakeNoZero"], unfollowed := true, recurses := true, apart := false }
def FnExactParseRackSaid : Prop := fnExactParseRackRow.holds Try.pinned (OpenSpec.ofChange fnExactParseRackSpec)

/-- ITS FALSE NEIGHBOUR: 'it returns false'. Refute it at one input. -/
def fnExactParseRackWrong : ChangeSpec := { name := "fnExactParseRack", fn := fun _ => fun
  | [d] => { results := [.lit (.bool false)], args := [d] }
  | _ => none }
def FnExactParseRackWrongFalsely : Prop := fnExactParseRackRow.holds Try.pinned (OpenSpec.ofChange fnExactParseRackWrong)

/-- 'laws.FnExactDoPours': WHATEVER THE INPUT: true; the input reads as it did. -/
def fnExactDoPoursSpec : ChangeSpec := { name := "fnExactDoPours", fn := fun _ => fun
  | [d1, d2] => { results := [.lit (.bool true)], args := [d1, d2] }
  | _ => none }
def fnExactDoPoursRow : OpenClaim := { program := "ytaokilajeempdaa", sum := "a85e46c4e8c54c3de22f854a9dc269136da4d404d90d01d6cd9f1cb4d78901e9", func := "loop.example/g01215/laws.FnExactDoPours", spec := "fnExactDoPours", unfollowed := true, recurses := true, apart := false }
def FnExactDoPoursSaid : Prop := fnExactDoPoursRow.holds Try.pinned (OpenSpec.ofChange fnExactDoPoursSpec)

/-- ITS FALSE NEIGHBOUR: 'it returns false'. Refute it at one input. -/
def fnExactDoPoursWrong : ChangeSpec := { name := "fnExactDoPours", fn := fun _ => fun
  | [d1, d2] => { results := [.lit (.bool false)], args := [d1, d2] }
  | _ => none }
def FnExactDoPoursWrongFalsely : Prop := fnExactDoPoursRow.holds Try.pinned (OpenSpec.ofChange fnExactDoPoursWrong)

/-- 'laws.FnExactIsStuck': WHATEVER THE INPUT: true; the input reads as it did. -/
def fnExactIsStuckSpec : ChangeSpec := { name := "fnExactIsStuck", fn := fun _ => fun
  | [d] => { results := [.lit (.bool true)], args := [d] }
  | _ => none }
def fnExactIsStuckRow : OpenClaim := { program := "ytaokilajeempdaa", sum := "a85e46c4e8c54c3de22f854a9dc269136da4d404d90d01d6cd9f1cb4d78901e9", func := "loop.example/g01215/laws.FnExactIsStuck", spec := "fnExactIsStuck", unfollowed := true, recurses := true, apart := false }
def FnExactIsStuckSaid : Prop := fnExactIsStuckRow.holds Try.pinned (OpenSpec.ofChange fnExactIsStuckSpec)

/-- ITS FALSE NEIGHBOUR: 'it returns false'. Refute it at one input. -/
def fnExactIsStuckWrong : ChangeSpec := { name := "fnExactIsStuck", fn := fun _ => fun
  | [d] => { results := [.lit (.bool false)], args := [d] }
  | _ => none }
def FnExactIsStuckWrongFalsely : Prop := fnExactIsStuckRow.holds Try.pinned (OpenSpec.ofChange fnExactIsStuckWrong)

/-- 'laws.FnExactFormOf': WHATEVER THE INPUT: true; the input reads as it did. -/
def fnExactFormOfSpec : ChangeSpec := { name := "fnExactFormOf", fn := fun _ => fun
  | [d] => { results := [.lit (.bool true)], args := [d] }
  | _ => none }
def fnExactFormOfRow : OpenClaim := { program := "ytaokilajeempdaa", sum := "a85e46c4e8c54c3de22f854a9dc269136da4d404d90d01d6cd9f1cb4d78901e9", func := "loop.example/g01215/laws.FnExactFormOf", spec := "fnExactFormOf", unfollowed := true, recurses := true, apart := false }
def FnExactFormOfSaid : Prop := fnExactFormOfRow.holds Try.pinned (OpenSpec.ofChange fnExactFormOfSpec)

/-- ITS FALSE NEIGHBOUR: 'it returns false'. Refute it at one input. -/
def fnExactFormOfWrong : ChangeSpec := { name := "fnExactFormOf", fn := fun _ => fun
  | [d] => { results := [.lit (.bool false)], args := [d] }
  | _ => none }
def FnExactFormOfWrongFalsely : Prop := fnExactFormOfRow.holds Try.pinned (OpenSpec.ofChange fnExactFormOfWrong)

/- THE SECOND FORM. 'bulk': how many values and letters a reading holds, each counted each time it is reached (what is shared counts as often as it is met; a slice's spare places count too). A statement '..UptoSaid' is the law's where the arguments, and the package variables that the reading takes, are together of bulk at most 1048576: NARROWER than '..Said'. Prove '..Said' where nothing that the law and all that it calls make is longer than what came in: it says more and counts as full. Else prove '..UptoSaid'. A law counts once. -/
mutual
def uptoBulk {H : Type} : DataW H → Nat
  | .lit (.string bytes) => bytes.length + 1
  | .lit _ => 1
  | .nil => 1
  | .ptr d => uptoBulk d + 1
  | .slice elems spare => uptoBulkAll elems + uptoBulkAll spare + 1
  | .agg parts => uptoBulkAll parts + 1
  | .iface _ d => uptoBulk d + 1
  | .map entries => uptoBulkEntries entries + 1
  | .held _ => 1
def uptoBulkAll {H : Type} : List (DataW H) → Nat
  | [] => 0
  | d :: r => uptoBulk d + uptoBulkAll r
def uptoBulkEntries {H : Type} : List (Lit × DataW H) → Nat
  | [] => 0
  | x :: r => uptoBulkEntry x + uptoBulkEntries r
def uptoBulkEntry {H : Type} : Lit × DataW H → Nat
  | (.string bytes, d) => bytes.length + uptoBulk d + 1
  | (_, d) => uptoBulk d + 1
 end
def uptoSmall : (H : Type) → List (DataW H) → Bool := fun _ ds => decide (uptoBulkAll ds ≤ 1048576)
def OpenSpec.upto (s : _root_.Go.ChangeSpec) : _root_.Go.OpenSpec := { _root_.Go.OpenSpec.ofChange s with cond := some uptoSmall }

/-- 'laws.FnExactRackText', WHERE WHAT IT READS IS OF BULK AT MOST 1048576: true; the input reads as it did. -/
def fnExactRackTextUptoRow : OpenClaim := { program := "ytaokilajeempdaa", sum := "a85e46c4e8c54c3de22f854a9dc269136da4d404d90d01d6cd9f1cb4d78901e9", func := "loop.example/g01215/laws.FnExactRackText", spec := "fnExactRackText", inPlace := ["internal/abi.NoEscape", "internal/bytealg.MakeNoZero"], unfollowed := true, recurses := true, apart := false, narrowed := true }
def FnExactRackTextUptoSaid : Prop := fnExactRackTextUptoRow.holds Try.pinned (OpenSpec.upto fnExactRackTextSpec)

/-- 'laws.FnExactParseRack', WHERE WHAT IT READS IS OF BULK AT MOST 1048576: true; the input reads as it did. -/
def fnExactParseRackUptoRow : OpenClaim := { program := "ytaokilajeempdaa", sum := "a85e46c4e8c54c3de22f854a9dc269136da4d404d90d01d6cd9f1cb4d78901e9", func := "loop.example/g01215/laws.FnExactParseRack", spec := "fnExactParseRack", inPlace := ["internal/abi.NoEscape", "internal/bytealg.MakeNoZero"], unfollowed := true, recurses := true, apart := false, narrowed := true }
def FnExactParseRackUptoSaid : Prop := fnExactParseRackUptoRow.holds Try.pinned (OpenSpec.upto fnExactParseRackSpec)

/-- 'laws.FnExactDoPours', WHERE WHAT IT READS IS OF BULK AT MOST 1048576: true; the input reads as it did. -/
def fnExactDoPoursUptoRow : OpenClaim := { program := "ytaokilajeempdaa", sum := "a85e46c4e8c54c3de22f854a9dc269136da4d404d90d01d6cd9f1cb4d78901e9", func := "loop.example/g01215/laws.FnExactDoPours", spec := "fnExactDoPours", unfollowed := true, recurses := true, apart := false, narrowed := true }
def FnExactDoPoursUptoSaid : Prop := fnExactDoPoursUptoRow.holds Try.pinned (OpenSpec.upto fnExactDoPoursSpec)

/-- 'laws.FnExactIsStuck', WHERE WHAT IT READS IS OF BULK AT MOST 1048576: true; the input reads as it did. -/
def fnExactIsStuckUptoRow : OpenClaim := { program := "ytaokilajeempdaa", sum := "a85e46c4e8c54c3de22f854a9dc269136da4d404d90d01d6cd9f1cb4d78901e9", func := "loop.example/g01215/laws.FnExactIsStuck", spec := "fnExactIsStuck", unfollowed := true, recurses := true, apart := false, narrowed := true }
def FnExactIsStuckUptoSaid : Prop := fnExactIsStuckUptoRow.holds Try.pinned (OpenSpec.upto fnExactIsStuckSpec)

/-- 'laws.FnExactFormOf', WHERE WHAT IT READS IS OF BULK AT MOST 1048576: true; the input reads as it did. -/
def fnExactFormOfUptoRow : OpenClaim := { program := "ytaokilajeempdaa", sum := "a85e46c4e8c54c3de22f854a9dc269136da4d404d90d01d6cd9f1cb4d78901e9", func := "loop.example/g01215/laws.FnExactFormOf", spec := "fnExactFormOf", unfollowed := true, recurses := true, apart := false, narrowed := true }
def FnExactFormOfUptoSaid : Prop := fnExactFormOfUptoRow.holds Try.pinned (OpenSpec.upto fnExactFormOfSpec)

end Rows
end Go.Proofs.Ytaokilajeempdaa
