/-
  No cell of these rows narrows 'for every input' (looked for: loops, veiled, ifaces, maps, wideKeys, modest, calm, conditions, laid).
  DERIVED. THE GIVEN ROWS OF THIS SEAT. 7 by the template 'for every input the law returns true; each argument reads behind the call as it read before'; 0 by the template 'total and deterministic' (their statements: YtbnffpcgcchnaaaTotals.lean).
  GIVEN WITH THE SEED: the statements are not yours to turn. If you find one false, say at which input.
  Laid BY PROGRAM, IN A SANDBOX (cutbox-rows.mjs): the forced cells as the released guide's own fill.sh prints them over the translation 64563b8e8625cf23… (all of the seat's roots in one cut). By AI agents, Wed Nov 11 2026. No macro, syntax, notation, axiom, sorry.
-/
import Derived.Test.YtbnffpcgcchnaaaChecked
import GoSem.Claim
import GoSem.ClaimJoined
import GoSem.ClaimMapViews
import Derived.JoinedTies
import Derived.KernelRfl
namespace Go.Proofs.Ytbnffpcgcchnaaa
/- THE CELL 'sum', in the pinned program and in every row, IS THE sha256 OF THE DUMP (.gsa) THAT YtbnffpcgcchnaaaProg.lean LOADS. Nothing in Lean hashes anything: it is a label: what it is worth is what the hold of that sum in a sandbox is worth. -/
noncomputable def Try.pinned : Pinned := { name := "ytbnffpcgcchnaaa", sum := "64563b8e8625cf2397e2a2b9bd9d95ec86776c3248aba3652ac9e903c7f37b75", checked := Try.checked }
namespace Rows
def none {H : Type} : Left H := { results := [], args := [] }

/-- 'laws.FnExactCountReached': WHATEVER THE INPUT: true; the input reads as it did. -/
def fnExactCountReachedSpec : ChangeSpec := { name := "fnExactCountReached", fn := fun _ => fun
  | [d1, d2] => { results := [.lit (.bool true)], args := [d1, d2] }
  | _ => none }
def fnExactCountReachedRow : OpenClaim := { program := "ytbnffpcgcchnaaa", sum := "64563b8e8625cf2397e2a2b9bd9d95ec86776c3248aba3652ac9e903c7f37b75", func := "loop.example/g01215/laws.FnExactCountReached", spec := "fnExactCountReached", unfollowed := true, recurses := true, plainKeys := false, apart := false }
def FnExactCountReachedSaid : Prop := fnExactCountReachedRow.holds Try.pinned (OpenSpec.ofChange fnExactCountReachedSpec)

/-- ITS FALSE NEIGHBOUR: 'it returns false'. Refute it at one input. -/
def fnExactCountReachedWrong : ChangeSpec := { name := "fnExactCountReached", fn := fun _ => fun
  | [d1, d2] => { results := [.lit (.bool false)], args := [d1, d2] }
  | _ => none }
def FnExactCountReachedWrongFalsely : Prop := fnExactCountReachedRow.holds Try.pinned (OpenSpec.ofChange fnExactCountReachedWrong)

/-- 'laws.FnExactReachedAll': WHATEVER THE INPUT: true; the input reads as it did. -/
def fnExactReachedAllSpec : ChangeSpec := { name := "fnExactReachedAll", fn := fun _ => fun
  | [d] => { results := [.lit (.bool true)], args := [d] }
  | _ => none }
def fnExactReachedAllRow : OpenClaim := { program := "ytbnffpcgcchnaaa", sum := "64563b8e8625cf2397e2a2b9bd9d95ec86776c3248aba3652ac9e903c7f37b75", func := "loop.example/g01215/laws.FnExactReachedAll", spec := "fnExactReachedAll", unfollowed := true, recurses := true, plainKeys := false, apart := false }
def FnExactReachedAllSaid : Prop := fnExactReachedAllRow.holds Try.pinned (OpenSpec.ofChange fnExactReachedAllSpec)

/-- ITS FALSE NEIGHBOUR: 'it returns false'. Refute it at one input. -/
def fnExactReachedAllWrong : ChangeSpec := { name := "fnExactReachedAll", fn := fun _ => fun
  | [d] => { results := [.lit (.bool false)], args := [d] }
  | _ => none }
def FnExactReachedAllWrongFalsely : Prop := fnExactReachedAllRow.holds Try.pinned (OpenSpec.ofChange fnExactReachedAllWrong)

/-- 'laws.FnExactCanBeSorted': WHATEVER THE INPUT: true; the input reads as it did. -/
def fnExactCanBeSortedSpec : ChangeSpec := { name := "fnExactCanBeSorted", fn := fun _ => fun
  | [d] => { results := [.lit (.bool true)], args := [d] }
  | _ => none }
def fnExactCanBeSortedRow : OpenClaim := { program := "ytbnffpcgcchnaaa", sum := "64563b8e8625cf2397e2a2b9bd9d95ec86776c3248aba3652ac9e903c7f37b75", func := "loop.example/g01215/laws.FnExactCanBeSorted", spec := "fnExactCanBeSorted", unfollowed := true, recurses := true, plainKeys := false, apart := false }
def FnExactCanBeSortedSaid : Prop := fnExactCanBeSortedRow.holds Try.pinned (OpenSpec.ofChange fnExactCanBeSortedSpec)

/-- ITS FALSE NEIGHBOUR: 'it returns false'. Refute it at one input. -/
def fnExactCanBeSortedWrong : ChangeSpec := { name := "fnExactCanBeSorted", fn := fun _ => fun
  | [d] => { results := [.lit (.bool false)], args := [d] }
  | _ => none }
def FnExactCanBeSortedWrongFalsely : Prop := fnExactCanBeSortedRow.holds Try.pinned (OpenSpec.ofChange fnExactCanBeSortedWrong)

/-- 'laws.FnExactFewestPours': WHATEVER THE INPUT: true; the input reads as it did. -/
def fnExactFewestPoursSpec : ChangeSpec := { name := "fnExactFewestPours", fn := fun _ => fun
  | [d] => { results := [.lit (.bool true)], args := [d] }
  | _ => none }
def fnExactFewestPoursRow : OpenClaim := { program := "ytbnffpcgcchnaaa", sum := "64563b8e8625cf2397e2a2b9bd9d95ec86776c3248aba3652ac9e903c7f37b75", func := "loop.example/g01215/laws.FnExactFewestPours", spec := "fnExactFewestPours", unfollowed := true, recurses := true, plainKeys := false, apart := false }
def FnExactFewestPoursSaid : Prop := fnExactFewestPoursRow.holds Try.pinned (OpenSpec.ofChange fnExactFewestPoursSpec)

/-- ITS FALSE NEIGHBOUR: 'it returns false'. Refute it at one input. -/
def fnExactFewestPoursWrong : ChangeSpec := { name := "fnExactFewestPours", fn := fun _ => fun
  | [d] => { results := [.lit (.bool false)], args := [d] }
  | _ => none }
def FnExactFewestPoursWrongFalsely : Prop := fnExactFewestPoursRow.holds Try.pinned (OpenSpec.ofChange fnExactFewestPoursWrong)

/-- 'laws.FnExactFewestTo': WHATEVER THE INPUT: true; the input reads as it did. -/
def fnExactFewestToSpec : ChangeSpec := { name := "fnExactFewestTo", fn := fun _ => fun
  | [d1, d2] => { results := [.lit (.bool true)], args := [d1, d2] }
  | _ => none }
def fnExactFewestToRow : OpenClaim := { program := "ytbnffpcgcchnaaa", sum := "64563b8e8625cf2397e2a2b9bd9d95ec86776c3248aba3652ac9e903c7f37b75", func := "loop.example/g01215/laws.FnExactFewestTo", spec := "fnExactFewestTo", unfollowed := true, recurses := true, plainKeys := false, apart := false }
def FnExactFewestToSaid : Prop := fnExactFewestToRow.holds Try.pinned (OpenSpec.ofChange fnExactFewestToSpec)

/-- ITS FALSE NEIGHBOUR: 'it returns false'. Refute it at one input. -/
def fnExactFewestToWrong : ChangeSpec := { name := "fnExactFewestTo", fn := fun _ => fun
  | [d1, d2] => { results := [.lit (.bool false)], args := [d1, d2] }
  | _ => none }
def FnExactFewestToWrongFalsely : Prop := fnExactFewestToRow.holds Try.pinned (OpenSpec.ofChange fnExactFewestToWrong)

/-- 'laws.FnExactPour': WHATEVER THE INPUT: true; the input reads as it did. -/
def fnExactPourSpec : ChangeSpec := { name := "fnExactPour", fn := fun _ => fun
  | [d1, d2, d3] => { results := [.lit (.bool true)], args := [d1, d2, d3] }
  | _ => none }
def fnExactPourRow : OpenClaim := { program := "ytbnffpcgcchnaaa", sum := "64563b8e8625cf2397e2a2b9bd9d95ec86776c3248aba3652ac9e903c7f37b75", func := "loop.example/g01215/laws.FnExactPour", spec := "fnExactPour", unfollowed := true, recurses := true, plainKeys := false, apart := false }
def FnExactPourSaid : Prop := fnExactPourRow.holds Try.pinned (OpenSpec.ofChange fnExactPourSpec)

/-- ITS FALSE NEIGHBOUR: 'it returns false'. Refute it at one input. -/
def fnExactPourWrong : ChangeSpec := { name := "fnExactPour", fn := fun _ => fun
  | [d1, d2, d3] => { results := [.lit (.bool false)], args := [d1, d2, d3] }
  | _ => none }
def FnExactPourWrongFalsely : Prop := fnExactPourRow.holds Try.pinned (OpenSpec.ofChange fnExactPourWrong)

/-- 'laws.FnExactDoPours': WHATEVER THE INPUT: true; the input reads as it did. -/
def fnExactDoPoursSpec : ChangeSpec := { name := "fnExactDoPours", fn := fun _ => fun
  | [d1, d2] => { results := [.lit (.bool true)], args := [d1, d2] }
  | _ => none }
def fnExactDoPoursRow : OpenClaim := { program := "ytbnffpcgcchnaaa", sum := "64563b8e8625cf2397e2a2b9bd9d95ec86776c3248aba3652ac9e903c7f37b75", func := "loop.example/g01215/laws.FnExactDoPours", spec := "fnExactDoPours", unfollowed := true, recurses := true, plainKeys := false, apart := false }
def FnExactDoPoursSaid : Prop := fnExactDoPoursRow.holds Try.pinned (OpenSpec.ofChange fnExactDoPoursSpec)

/-- ITS FALSE NEIGHBOUR: 'it returns false'. Refute it at one input. -/
def fnExactDoPoursWrong : ChangeSpec := { name := "fnExactDoPours", fn := fun _ => fun
  | [d1, d2] => { results := [.lit (.bool false)], args := [d1, d2] }
  | _ => none }
def FnExactDoPoursWrongFalsely : Prop := fnExactDoPoursRow.holds Try.pinned (OpenSpec.ofChange fnExactDoPoursWrong)

/- THE SECOND FORM. 'bulk': how many values and letters a reading holds, each counted each time it is reached (what is shared counts as often as it is met; a slice's spare places count too). A statement '..UptoSaid' is the law's where the arguments, and the package variables that the reading takes, are together of bulk at most 1048576: NARROWER than '..Said'. Prove '..Said' where nothing that the law and all that it calls make is longer than what came in: it says more and counts as full. Else prove '..UptoSaid'. A law counts once. -/
mutual
def uptoBulk {H : Type} : DataW H → Nat
  | .lit (.string bytes) => bytes.length + 1
  | .lit _ => 1
  | .nil => 1
  | .ptr d => uptoBulk d + 1
  | .slice elems spare => uptoBulkAll elems + uptoBulkAll spare + 1
  | .agg parts => uptoBulkAll parts + 1
  | .iface _ d => uptoBulk d + 1
  | .map entries => uptoBulkEntries entries + 1
  | .held _ => 1
def uptoBulkAll {H : Type} : List (DataW H) → Nat
  | [] => 0
  | d :: r => uptoBulk d + uptoBulkAll r
def uptoBulkEntries {H : Type} : List (Lit × DataW H) → Nat
  | [] => 0
  | x :: r => uptoBulkEntry x + uptoBulkEntries r
def uptoBulkEntry {H : Type} : Lit × DataW H → Nat
  | (.string bytes, d) => bytes.length + uptoBulk d + 1
  | (_, d) => uptoBulk d + 1
 end
def uptoSmall : (H : Type) → List (DataW H) → Bool := fun _ ds => decide (uptoBulkAll ds ≤ 1048576)
def OpenSpec.upto (s : _root_.Go.ChangeSpec) : _root_.Go.OpenSpec := { _root_.Go.OpenSpec.ofChange s with cond := some uptoSmall }

/-- 'laws.FnExactCountReached', WHERE WHAT IT READS IS OF BULK AT MOST 1048576: true; the input reads as it did. -/
def fnExactCountReachedUptoRow : OpenClaim := { program := "ytbnffpcgcchnaaa", sum := "64563b8e8625cf2397e2a2b9bd9d95ec86776c3248aba3652ac9e903c7f37b75", func := "loop.example/g01215/laws.FnExactCountReached", spec := "fnExactCountReached", unfollowed := true, recurses := true, plainKeys := false, apart := false, narrowed := true }
def FnExactCountReachedUptoSaid : Prop := fnExactCountReachedUptoRow.holds Try.pinned (OpenSpec.upto fnExactCountReachedSpec)

/-- 'laws.FnExactReachedAll', WHERE WHAT IT READS IS OF BULK AT MOST 1048576: true; the input reads as it did. -/
def fnExactReachedAllUptoRow : OpenClaim := { program := "ytbnffpcgcchnaaa", sum := "64563b8e8625cf2397e2a2b9bd9d95ec86776c3248aba3652ac9e903c7f37b75", func := "loop.example/g01215/laws.FnExactReachedAll", spec := "fnExactReachedAll", unfollowed := true, recurses := true, plainKeys := false, apart := false, narrowed := true }
def FnExactReachedAllUptoSaid : Prop := fnExactReachedAllUptoRow.holds Try.pinned (OpenSpec.upto fnExactReachedAllSpec)

/-- 'laws.FnExactCanBeSorted', WHERE WHAT IT READS IS OF BULK AT MOST 1048576: true; the input reads as it did. -/
def fnExactCanBeSortedUptoRow : OpenClaim := { program := "ytbnffpcgcchnaaa", sum := "64563b8e8625cf2397e2a2b9bd9d95ec86776c3248aba3652ac9e903c7f37b75", func := "loop.example/g01215/laws.FnExactCanBeSorted", spec := "fnExactCanBeSorted", unfollowed := true, recurses := true, plainKeys := false, apart := false, narrowed := true }
def FnExactCanBeSortedUptoSaid : Prop := fnExactCanBeSortedUptoRow.holds Try.pinned (OpenSpec.upto fnExactCanBeSortedSpec)

/-- 'laws.FnExactFewestPours', WHERE WHAT IT READS IS OF BULK AT MOST 1048576: true; the input reads as it did. -/
def fnExactFewestPoursUptoRow : OpenClaim := { program := "ytbnffpcgcchnaaa", sum := "64563b8e8625cf2397e2a2b9bd9d95ec86776c3248aba3652ac9e903c7f37b75", func := "loop.example/g01215/laws.FnExactFewestPours", spec := "fnExactFewestPours", unfollowed := true, recurses := true, plainKeys := false, apart := false, narrowed := true }
def FnExactFewestPoursUptoSaid : Prop := fnExactFewestPoursUptoRow.holds Try.pinned (OpenSpec.upto fnExactFewestPoursSpec)

/-- 'laws.FnExactFewestTo', WHERE WHAT IT READS IS OF BULK AT MOST 1048576: true; the input reads as it did. -/
def fnExactFewestToUptoRow : OpenClaim := { program := "ytbnffpcgcchnaaa", sum := "64563b8e8625cf2397e2a2b9bd9d95ec86776c3248aba3652ac9e903c7f37b75", func := "loop.example/g01215/laws.FnExactFewestTo", spec := "fnExactFewestTo", unfollowed := true, recurses := true, plainKeys := false, apart := false, narrowed := true }
def FnExactFewestToUptoSaid : Prop := fnExactFewestToUptoRow.holds Try.pinned (OpenSpec.upto fnExactFewestToSpec)

/-- 'laws.FnExactPour', WHERE WHAT IT READS IS OF BULK AT MOST 1048576: true; the input reads as it did. -/
def fnExactPourUptoRow : OpenClaim := { program := "ytbnffpcgcchnaaa", sum := "64563b8e8625cf2397e2a2b9bd9d95ec86776c3248aba3652ac9e903c7f37b75", func := "loop.example/g01215/laws.FnExactPour", spec := "fnExactPour", unfollowed := true, recurses := true, plainKeys := false, apart := false, narrowed := true }
def FnExactPourUptoSaid : Prop := fnExactPourUptoRow.holds Try.pinned (OpenSpec.upto fnExactPourSpec)

/-- 'laws.FnExactDoPours', WHERE WHAT IT READS IS OF BULK AT MOST 1048576: true; the input reads as it did. -/
def fnExactDoPoursUptoRow : OpenClaim := { program := "ytbnffpcgcchnaaa", sum := "64563b8e8625cf2397e2a2b9bd9d95ec86776c3248aba3652ac9e903c7f37b75", func := "loop.example/g01215/laws.FnExactDoPours", spec := "fnExactDoPours", unfollowed := true, recurses := true, plainKeys := false, apart := false, narrowed := true }
def FnExactDoPoursUptoSaid : Prop := fnExactDoPoursUptoRow.holds Try.pinned (OpenSpec.upto fnExactDoPoursSpec)

end Rows
end Go.Proofs.Ytbnffpcgcchnaaa
