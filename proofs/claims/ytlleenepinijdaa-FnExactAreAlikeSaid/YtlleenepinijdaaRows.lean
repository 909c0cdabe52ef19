/-
  No cell of these rows narrows 'for every input' (looked for: loops, veiled, ifaces, maps, wideKeys, modest, calm, conditions, laid).
  DERIVED. THE GIVEN ROWS OF THIS SEAT. 7 by the template 'for every input the law returns true; each argument reads behind the call as it read before'; 0 by the template 'total and deterministic' (their statements: YtlleenepinijdaaTotals.lean).
  GIVEN WITH THE SEED: the statements are not yours to turn. If you find one false, say at which input.
  Laid BY PROGRAM, IN A SANDBOX (cutbox-rows.mjs): the forced cells as the released guide's own fill.sh prints them over the translation f0262f947acb8f0b… (all of the seat's roots in one cut). By AI agents, Wed Nov 11 2026. No macro, syntax, notation, axiom, sorry.
-/
import Derived.Test.YtlleenepinijdaaChecked
import GoSem.Claim
import GoSem.ClaimJoined
import GoSem.ClaimMapViews
import Derived.JoinedTies
import Derived.KernelRfl
namespace Go.Proofs.Ytlleenepinijdaa
/- THE CELL 'sum', in the pinned program and in every row, IS THE sha256 OF THE DUMP (.gsa) THAT YtlleenepinijdaaProg.lean LOADS. Nothing in Lean hashes anything: it is a label: what it is worth is what the hold of that sum in a sandbox is worth. -/
noncomputable def Try.pinned : Pinned := { name := "ytlleenepinijdaa", sum := "f0262f947acb8f0babff8d3f599a8cf75804a04a29038ba72c485649694bf16a", checked := Try.checked }
namespace Rows
def none {H : Type} : Left H := { results := [], args := [] }

/-- 'laws.FnExactAreAlike': WHATEVER THE INPUT: true; the input reads as it did. -/
def fnExactAreAlikeSpec : ChangeSpec := { name := "fnExactAreAlike", fn := fun _ => fun
  | [d1, d2] => { results := [.lit (.bool true)], args := [d1, d2] }
  | _ => none }
def fnExactAreAlikeRow : OpenClaim := { program := "ytlleenepinijdaa", sum := "f0262f947acb8f0babff8d3f599a8cf75804a04a29038ba72c485649694bf16a", func := "loop.example/g01215/laws.FnExactAreAlike", spec := "fnExactAreAlike", unfollowed := true, recurses := true, plainKeys := false, apart := false }
def FnExactAreAlikeSaid : Prop := fnExactAreAlikeRow.holds Try.pinned (OpenSpec.ofChange fnExactAreAlikeSpec)

/-- ITS FALSE NEIGHBOUR: 'it returns false'. Refute it at one input. -/
def fnExactAreAlikeWrong : ChangeSpec := { name := "fnExactAreAlike", fn := fun _ => fun
  | [d1, d2] => { results := [.lit (.bool false)], args := [d1, d2] }
  | _ => none }
def FnExactAreAlikeWrongFalsely : Prop := fnExactAreAlikeRow.holds Try.pinned (OpenSpec.ofChange fnExactAreAlikeWrong)

/-- 'laws.FnExactRenamingTo': WHATEVER THE INPUT: true; the input reads as it did. -/
def fnExactRenamingToSpec : ChangeSpec := { name := "fnExactRenamingTo", fn := fun _ => fun
  | [d1, d2] => { results := [.lit (.bool true)], args := [d1, d2] }
  | _ => none }
def fnExactRenamingToRow : OpenClaim := { program := "ytlleenepinijdaa", sum := "f0262f947acb8f0babff8d3f599a8cf75804a04a29038ba72c485649694bf16a", func := "loop.example/g01215/laws.FnExactRenamingTo", spec := "fnExactRenamingTo", unfollowed := true, recurses := true, plainKeys := false, apart := false }
def FnExactRenamingToSaid : Prop := fnExactRenamingToRow.holds Try.pinned (OpenSpec.ofChange fnExactRenamingToSpec)

/-- ITS FALSE NEIGHBOUR: 'it returns false'. Refute it at one input. -/
def fnExactRenamingToWrong : ChangeSpec := { name := "fnExactRenamingTo", fn := fun _ => fun
  | [d1, d2] => { results := [.lit (.bool false)], args := [d1, d2] }
  | _ => none }
def FnExactRenamingToWrongFalsely : Prop := fnExactRenamingToRow.holds Try.pinned (OpenSpec.ofChange fnExactRenamingToWrong)

/-- 'laws.FnExactCountRenamings': WHATEVER THE INPUT: true; the input reads as it did. -/
def fnExactCountRenamingsSpec : ChangeSpec := { name := "fnExactCountRenamings", fn := fun _ => fun
  | [d] => { results := [.lit (.bool true)], args := [d] }
  | _ => none }
def fnExactCountRenamingsRow : OpenClaim := { program := "ytlleenepinijdaa", sum := "f0262f947acb8f0babff8d3f599a8cf75804a04a29038ba72c485649694bf16a", func := "loop.example/g01215/laws.FnExactCountRenamings", spec := "fnExactCountRenamings", unfollowed := true, recurses := true, plainKeys := false, apart := false }
def FnExactCountRenamingsSaid : Prop := fnExactCountRenamingsRow.holds Try.pinned (OpenSpec.ofChange fnExactCountRenamingsSpec)

/-- ITS FALSE NEIGHBOUR: 'it returns false'. Refute it at one input. -/
def fnExactCountRenamingsWrong : ChangeSpec := { name := "fnExactCountRenamings", fn := fun _ => fun
  | [d] => { results := [.lit (.bool false)], args := [d] }
  | _ => none }
def FnExactCountRenamingsWrongFalsely : Prop := fnExactCountRenamingsRow.holds Try.pinned (OpenSpec.ofChange fnExactCountRenamingsWrong)

/-- 'laws.FnExactFirstForm': WHATEVER THE INPUT: true; the input reads as it did. -/
def fnExactFirstFormSpec : ChangeSpec := { name := "fnExactFirstForm", fn := fun _ => fun
  | [d] => { results := [.lit (.bool true)], args := [d] }
  | _ => none }
def fnExactFirstFormRow : OpenClaim := { program := "ytlleenepinijdaa", sum := "f0262f947acb8f0babff8d3f599a8cf75804a04a29038ba72c485649694bf16a", func := "loop.example/g01215/laws.FnExactFirstForm", spec := "fnExactFirstForm", unfollowed := true, recurses := true, plainKeys := false, apart := false }
def FnExactFirstFormSaid : Prop := fnExactFirstFormRow.holds Try.pinned (OpenSpec.ofChange fnExactFirstFormSpec)

/-- ITS FALSE NEIGHBOUR: 'it returns false'. Refute it at one input. -/
def fnExactFirstFormWrong : ChangeSpec := { name := "fnExactFirstForm", fn := fun _ => fun
  | [d] => { results := [.lit (.bool false)], args := [d] }
  | _ => none }
def FnExactFirstFormWrongFalsely : Prop := fnExactFirstFormRow.holds Try.pinned (OpenSpec.ofChange fnExactFirstFormWrong)

/-- 'laws.FnExactCountReached': WHATEVER THE INPUT: true; the input reads as it did. -/
def fnExactCountReachedSpec : ChangeSpec := { name := "fnExactCountReached", fn := fun _ => fun
  | [d1, d2] => { results := [.lit (.bool true)], args := [d1, d2] }
  | _ => none }
def fnExactCountReachedRow : OpenClaim := { program := "ytlleenepinijdaa", sum := "f0262f947acb8f0babff8d3f599a8cf75804a04a29038ba72c485649694bf16a", func := "loop.example/g01215/laws.FnExactCountReached", spec := "fnExactCountReached", unfollowed := true, recurses := true, plainKeys := false, apart := false }
def FnExactCountReachedSaid : Prop := fnExactCountReachedRow.holds Try.pinned (OpenSpec.ofChange fnExactCountReachedSpec)

/-- ITS FALSE NEIGHBOUR: 'it returns false'. Refute it at one input. -/
def fnExactCountReachedWrong : ChangeSpec := { name := "fnExactCountReached", fn := fun _ => fun
  | [d1, d2] => { results := [.lit (.bool false)], args := [d1, d2] }
  | _ => none }
def FnExactCountReachedWrongFalsely : Prop := fnExactCountReachedRow.holds Try.pinned (OpenSpec.ofChange fnExactCountReachedWrong)

/-- 'laws.FnExactReachedAll': WHATEVER THE INPUT: true; the input reads as it did. -/
def fnExactReachedAllSpec : ChangeSpec := { name := "fnExactReachedAll", fn := fun _ => fun
  | [d] => { results := [.lit (.bool true)], args := [d] }
  | _ => none }
def fnExactReachedAllRow : OpenClaim := { program := "ytlleenepinijdaa", sum := "f0262f947acb8f0babff8d3f599a8cf75804a04a29038ba72c485649694bf16a", func := "loop.example/g01215/laws.FnExactReachedAll", spec := "fnExactReachedAll", unfollowed := true, recurses := true, plainKeys := false, apart := false }
def FnExactReachedAllSaid : Prop := fnExactReachedAllRow.holds Try.pinned (OpenSpec.ofChange fnExactReachedAllSpec)

/-- ITS FALSE NEIGHBOUR: 'it returns false'. Refute it at one input. -/
def fnExactReachedAllWrong : ChangeSpec := { name := "fnExactReachedAll", fn := fun _ => fun
  | [d] => { results := [.lit (.bool false)], args := [d] }
  | _ => none }
def FnExactReachedAllWrongFalsely : Prop := fnExactReachedAllRow.holds Try.pinned (OpenSpec.ofChange fnExactReachedAllWrong)

/-- 'laws.FnExactCanBeSorted': WHATEVER THE INPUT: true; the input reads as it did. -/
def fnExactCanBeSortedSpec : ChangeSpec := { name := "fnExactCanBeSorted", fn := fun _ => fun
  | [d] => { results := [.lit (.bool true)], args := [d] }
  | _ => none }
def fnExactCanBeSortedRow : OpenClaim := { program := "ytlleenepinijdaa", sum := "f0262f947acb8f0babff8d3f599a8cf75804a04a29038ba72c485649694bf16a", func := "loop.example/g01215/laws.FnExactCanBeSorted", spec := "fnExactCanBeSorted", unfollowed := true, recurses := true, plainKeys := false, apart := false }
def FnExactCanBeSortedSaid : Prop := fnExactCanBeSortedRow.holds Try.pinned (OpenSpec.ofChange fnExactCanBeSortedSpec)

/-- ITS FALSE NEIGHBOUR: 'it returns false'. Refute it at one input. -/
def fnExactCanBeSortedWrong : ChangeSpec := { name := "fnExactCanBeSorted", fn := fun _ => fun
  | [d] => { results := [.lit (.bool false)], args := [d] }
  | _ => none }
def FnExactCanBeSortedWrongFalsely : Prop := fnExactCanBeSortedRow.holds Try.pinned (OpenSpec.ofChange fnExactCanBeSortedWrong)

/- THE SECOND FORM. 'bulk': how many values and letters a reading holds, each counted each time it is reached (what is shared counts as often as it is met; a slice's spare places count too). A statement '..UptoSaid' is the law's where the arguments, and the package variables that the reading takes, are together of bulk at most 1048576: NARROWER than '..Said'. Prove '..Said' where nothing that the law and all that it calls make is longer than what came in: it says more and counts as full. Else prove '..UptoSaid'. A law counts once. -/
mutual
def uptoBulk {H : Type} : DataW H → Nat
  | .lit (.string bytes) => bytes.length + 1
  | .lit _ => 1
  | .nil => 1
  | .ptr d => uptoBulk d + 1
  | .slice elems spare => uptoBulkAll elems + uptoBulkAll spare + 1
  | .agg parts => uptoBulkAll parts + 1
  | .iface _ d => uptoBulk d + 1
  | .map entries => uptoBulkEntries entries + 1
  | .held _ => 1
def uptoBulkAll {H : Type} : List (DataW H) → Nat
  | [] => 0
  | d :: r => uptoBulk d + uptoBulkAll r
def uptoBulkEntries {H : Type} : List (Lit × DataW H) → Nat
  | [] => 0
  | x :: r => uptoBulkEntry x + uptoBulkEntries r
def uptoBulkEntry {H : Type} : Lit × DataW H → Nat
  | (.string bytes, d) => bytes.length + uptoBulk d + 1
  | (_, d) => uptoBulk d + 1
 end
def uptoSmall : (H : Type) → List (DataW H) → Bool := fun _ ds => decide (uptoBulkAll ds ≤ 1048576)
def OpenSpec.upto (s : _root_.Go.ChangeSpec) : _root_.Go.OpenSpec := { _root_.Go.OpenSpec.ofChange s with cond := some uptoSmall }

/-- 'laws.FnExactAreAlike', WHERE WHAT IT READS IS OF BULK AT MOST 1048576: true; the input reads as it did. -/
def fnExactAreAlikeUptoRow : OpenClaim := { program := "ytlleenepinijdaa", sum := "f0262f947acb8f0babff8d3f599a8cf75804a04a29038ba72c485649694bf16a", func := "loop.example/g01215/laws.FnExactAreAlike", spec := "fnExactAreAlike", unfollowed := true, recurses := true, plainKeys := false, apart := false, narrowed := true }
def FnExactAreAlikeUptoSaid : Prop := fnExactAreAlikeUptoRow.holds Try.pinned (OpenSpec.upto fnExactAreAlikeSpec)

/-- 'laws.FnExactRenamingTo', WHERE WHAT IT READS IS OF BULK AT MOST 1048576: true; the input reads as it did. -/
def fnExactRenamingToUptoRow : OpenClaim := { program := "ytlleenepinijdaa", sum := "f0262f947acb8f0babff8d3f599a8cf75804a04a29038ba72c485649694bf16a", func := "loop.example/g01215/laws.FnExactRenamingTo", spec := "fnExactRenamingTo", unfollowed := true, recurses := true, plainKeys := false, apart := false, narrowed := true }
def FnExactRenamingToUptoSaid : Prop := fnExactRenamingToUptoRow.holds Try.pinned (OpenSpec.upto fnExactRenamingToSpec)

/-- 'laws.FnExactCountRenamings', WHERE WHAT IT READS IS OF BULK AT MOST 1048576: true; the input reads as it did. -/
def fnExactCountRenamingsUptoRow : OpenClaim := { program := "ytlleenepinijdaa", sum := "f0262f947acb8f0babff8d3f599a8cf75804a04a29038ba72c485649694bf16a", func := "loop.example/g01215/laws.FnExactCountRenamings", spec := "fnExactCountRenamings", unfollowed := true, recurses := true, plainKeys := false, apart := false, narrowed := true }
def FnExactCountRenamingsUptoSaid : Prop := fnExactCountRenamingsUptoRow.holds Try.pinned (OpenSpec.upto fnExactCountRenamingsSpec)

/-- 'laws.FnExactFirstForm', WHERE WHAT IT READS IS OF BULK AT MOST 1048576: true; the input reads as it did. -/
def fnExactFirstFormUptoRow : OpenClaim := { program := "ytlleenepinijdaa", sum := "f0262f947acb8f0babff8d3f599a8cf75804a04a29038ba72c485649694bf16a", func := "loop.example/g01215/laws.FnExactFirstForm", spec := "fnExactFirstForm", unfollowed := true, recurses := true, plainKeys := false, apart := false, narrowed := true }
def FnExactFirstFormUptoSaid : Prop := fnExactFirstFormUptoRow.holds Try.pinned (OpenSpec.upto fnExactFirstFormSpec)

/-- 'laws.FnExactCountReached', WHERE WHAT IT READS IS OF BULK AT MOST 1048576: true; the input reads as it did. -/
def fnExactCountReachedUptoRow : OpenClaim := { program := "ytlleenepinijdaa", sum := "f0262f947acb8f0babff8d3f599a8cf75804a04a29038ba72c485649694bf16a", func := "loop.example/g01215/laws.FnExactCountReached", spec := "fnExactCountReached", unfollowed := true, recurses := true, plainKeys := false, apart := false, narrowed := true }
def FnExactCountReachedUptoSaid : Prop := fnExactCountReachedUptoRow.holds Try.pinned (OpenSpec.upto fnExactCountReachedSpec)

/-- 'laws.FnExactReachedAll', WHERE WHAT IT READS IS OF BULK AT MOST 1048576: true; the input reads as it did. -/
def fnExactReachedAllUptoRow : OpenClaim := { program := "ytlleenepinijdaa", sum := "f0262f947acb8f0babff8d3f599a8cf75804a04a29038ba72c485649694bf16a", func := "loop.example/g01215/laws.FnExactReachedAll", spec := "fnExactReachedAll", unfollowed := true, recurses := true, plainKeys := false, apart := false, narrowed := true }
def FnExactReachedAllUptoSaid : Prop := fnExactReachedAllUptoRow.holds Try.pinned (OpenSpec.upto fnExactReachedAllSpec)

/-- 'laws.FnExactCanBeSorted', WHERE WHAT IT READS IS OF BULK AT MOST 1048576: true; the input reads as it did. -/
def fnExactCanBeSortedUptoRow : OpenClaim := { program := "ytlleenepinijdaa", sum := "f0262f947acb8f0babff8d3f599a8cf75804a04a29038ba72c485649694bf16a", func := "loop.example/g01215/laws.FnExactCanBeSorted", spec := "fnExactCanBeSorted", unfollowed := true, recurses := true, plainKeys := false, apart := false, narrowed := true }
def FnExactCanBeSortedUptoSaid : Prop := fnExactCanBeSortedUptoRow.holds Try.pinned (OpenSpec.upto fnExactCanBeSortedSpec)

end Rows
end Go.Proofs.Ytlleenepinijdaa
