/-
  No cell of these rows narrows 'for every input' (looked for: loops, veiled, ifaces, maps, wideKeys, modest, calm, conditions, laid).
  DERIVED. THE GIVEN ROWS OF THIS SEAT. 7 by the template 'for every input the law returns true; each argument reads behind the call as it read before'; 0 by the template 'total and deterministic' (their statements: YtmodkllhdeknoaaTotals.lean).
  GIVEN WITH THE SEED: the statements are not yours to turn. If you find one false, say at which input.
  Laid BY PROGRAM, IN A SANDBOX (cutbox-rows.mjs): the forced cells as the released guide's own fill.sh prints them over the translation 0928ed75684ef847… (all of the seat's roots in one cut). By AI agents, Wed Nov 11 2026. No macro, syntax, notation, axiom, sorry.
-/
import Derived.Test.YtmodkllhdeknoaaChecked
import GoSem.Claim
import GoSem.ClaimJoined
import GoSem.ClaimMapViews
import Derived.JoinedTies
import Derived.KernelRfl
namespace Go.Proofs.Ytmodkllhdeknoaa
/- THE CELL 'sum', in the pinned program and in every row, IS THE sha256 OF THE DUMP (.gsa) THAT YtmodkllhdeknoaaProg.lean LOADS. Nothing in Lean hashes anything: it is a label: what it is worth is what the hold of that sum in a sandbox is worth. -/
noncomputable def Try.pinned : Pinned := { name := "ytmodkllhdeknoaa", sum := "0928ed75684ef847f3b3e470011539e5cbdec7230d730da2d505f26ddeee2d3a", checked := Try.checked }
namespace Rows
def none {H : Type} : Left H := { results := [], args := [] }

/-- 'laws.FnExactCountRuns': WHATEVER THE INPUT: true; the input reads as it did. -/
def fnExactCountRunsSpec : ChangeSpec := { name := "fnExactCountRuns", fn := fun _ => fun
  | [d] => { results := [.lit (.bool true)], args := [d] }
  | _ => none }
def fnExactCountRunsRow : OpenClaim := { program := "ytmodkllhdeknoaa", sum := "0928ed75684ef847f3b3e470011539e5cbdec7230d730da2d505f26ddeee2d3a", func := "loop.example/g01215/laws.FnExactCountRuns", spec := "fnExactCountRuns", unfollowed := true, recurses := true, apart := false }
def FnExactCountRunsSaid : Prop := fnExactCountRunsRow.holds Try.pinned (OpenSpec.ofChange fnExactCountRunsSpec)

/-- ITS FALSE NEIGHBOUR: 'it returns false'. Refute it at one input. -/
def fnExactCountRunsWrong : ChangeSpec := { name := "fnExactCountRuns", fn := fun _ => fun
  | [d] => { results := [.lit (.bool false)], args := [d] }
  | _ => none }
def FnExactCountRunsWrongFalsely : Prop := fnExactCountRunsRow.holds Try.pinned (OpenSpec.ofChange fnExactCountRunsWrong)

/-- 'laws.FnExactCountBoundaries': WHATEVER THE INPUT: true; the input reads as it did. -/
def fnExactCountBoundariesSpec : ChangeSpec := { name := "fnExactCountBoundaries", fn := fun _ => fun
  | [d] => { results := [.lit (.bool true)], args := [d] }
  | _ => none }
def fnExactCountBoundariesRow : OpenClaim := { program := "ytmodkllhdeknoaa", sum := "0928ed75684ef847f3b3e470011539e5cbdec7230d730da2d505f26ddeee2d3a", func := "loop.example/g01215/laws.FnExactCountBoundaries", spec := "fnExactCountBoundaries", unfollowed := true, recurses := true, apart := false }
def FnExactCountBoundariesSaid : Prop := fnExactCountBoundariesRow.holds Try.pinned (OpenSpec.ofChange fnExactCountBoundariesSpec)

/-- ITS FALSE NEIGHBOUR: 'it returns false'. Refute it at one input. -/
def fnExactCountBoundariesWrong : ChangeSpec := { name := "fnExactCountBoundaries", fn := fun _ => fun
  | [d] => { results := [.lit (.bool false)], args := [d] }
  | _ => none }
def FnExactCountBoundariesWrongFalsely : Prop := fnExactCountBoundariesRow.holds Try.pinned (OpenSpec.ofChange fnExactCountBoundariesWrong)

/-- 'laws.FnExactBottomCounts': WHATEVER THE INPUT: true; the input reads as it did. -/
def fnExactBottomCountsSpec : ChangeSpec := { name := "fnExactBottomCounts", fn := fun _ => fun
  | [d] => { results := [.lit (.bool true)], args := [d] }
  | _ => none }
def fnExactBottomCountsRow : OpenClaim := { program := "ytmodkllhdeknoaa", sum := "0928ed75684ef847f3b3e470011539e5cbdec7230d730da2d505f26ddeee2d3a", func := "loop.example/g01215/laws.FnExactBottomCounts", spec := "fnExactBottomCounts", unfollowed := true, recurses := true, apart := false }
def FnExactBottomCountsSaid : Prop := fnExactBottomCountsRow.holds Try.pinned (OpenSpec.ofChange fnExactBottomCountsSpec)

/-- ITS FALSE NEIGHBOUR: 'it returns false'. Refute it at one input. -/
def fnExactBottomCountsWrong : ChangeSpec := { name := "fnExactBottomCounts", fn := fun _ => fun
  | [d] => { results := [.lit (.bool false)], args := [d] }
  | _ => none }
def FnExactBottomCountsWrongFalsely : Prop := fnExactBottomCountsRow.holds Try.pinned (OpenSpec.ofChange fnExactBottomCountsWrong)

/-- 'laws.FnExactBoundOf': WHATEVER THE INPUT: true; the input reads as it did. -/
def fnExactBoundOfSpec : ChangeSpec := { name := "fnExactBoundOf", fn := fun _ => fun
  | [d] => { results := [.lit (.bool true)], args := [d] }
  | _ => none }
def fnExactBoundOfRow : OpenClaim := { program := "ytmodkllhdeknoaa", sum := "0928ed75684ef847f3b3e470011539e5cbdec7230d730da2d505f26ddeee2d3a", func := "loop.example/g01215/laws.FnExactBoundOf", spec := "fnExactBoundOf", unfollowed := true, recurses := true, apart := false }
def FnExactBoundOfSaid : Prop := fnExactBoundOfRow.holds Try.pinned (OpenSpec.ofChange fnExactBoundOfSpec)

/-- ITS FALSE NEIGHBOUR: 'it returns false'. Refute it at one input. -/
def fnExactBoundOfWrong : ChangeSpec := { name := "fnExactBoundOf", fn := fun _ => fun
  | [d] => { results := [.lit (.bool false)], args := [d] }
  | _ => none }
def FnExactBoundOfWrongFalsely : Prop := fnExactBoundOfRow.holds Try.pinned (OpenSpec.ofChange fnExactBoundOfWrong)

/-- 'laws.FnExactSpareRuns': WHATEVER THE INPUT: true; the input reads as it did. -/
def fnExactSpareRunsSpec : ChangeSpec := { name := "fnExactSpareRuns", fn := fun _ => fun
  | [d] => { results := [.lit (.bool true)], args := [d] }
  | _ => none }
def fnExactSpareRunsRow : OpenClaim := { program := "ytmodkllhdeknoaa", sum := "0928ed75684ef847f3b3e470011539e5cbdec7230d730da2d505f26ddeee2d3a", func := "loop.example/g01215/laws.FnExactSpareRuns", spec := "fnExactSpareRuns", unfollowed := true, recurses := true, apart := false }
def FnExactSpareRunsSaid : Prop := fnExactSpareRunsRow.holds Try.pinned (OpenSpec.ofChange fnExactSpareRunsSpec)

/-- ITS FALSE NEIGHBOUR: 'it returns false'. Refute it at one input. -/
def fnExactSpareRunsWrong : ChangeSpec := { name := "fnExactSpareRuns", fn := fun _ => fun
  | [d] => { results := [.lit (.bool false)], args := [d] }
  | _ => none }
def FnExactSpareRunsWrongFalsely : Prop := fnExactSpareRunsRow.holds Try.pinned (OpenSpec.ofChange fnExactSpareRunsWrong)

/-- 'laws.FnExactDoesFit': WHATEVER THE INPUT: true; the input reads as it did. -/
def fnExactDoesFitSpec : ChangeSpec := { name := "fnExactDoesFit", fn := fun _ => fun
  | [d] => { results := [.lit (.bool true)], args := [d] }
  | _ => none }
def fnExactDoesFitRow : OpenClaim := { program := "ytmodkllhdeknoaa", sum := "0928ed75684ef847f3b3e470011539e5cbdec7230d730da2d505f26ddeee2d3a", func := "loop.example/g01215/laws.FnExactDoesFit", spec := "fnExactDoesFit", unfollowed := true, recurses := true, apart := false }
def FnExactDoesFitSaid : Prop := fnExactDoesFitRow.holds Try.pinned (OpenSpec.ofChange fnExactDoesFitSpec)

/-- ITS FALSE NEIGHBOUR: 'it returns false'. Refute it at one input. -/
def fnExactDoesFitWrong : ChangeSpec := { name := "fnExactDoesFit", fn := fun _ => fun
  | [d] => { results := [.lit (.bool false)], args := [d] }
  | _ => none }
def FnExactDoesFitWrongFalsely : Prop := fnExactDoesFitRow.holds Try.pinned (OpenSpec.ofChange fnExactDoesFitWrong)

/-- 'laws.FnExactRoomLeft': WHATEVER THE INPUT: true; the input reads as it did. -/
def fnExactRoomLeftSpec : ChangeSpec := { name := "fnExactRoomLeft", fn := fun _ => fun
  | [d] => { results := [.lit (.bool true)], args := [d] }
  | _ => none }
def fnExactRoomLeftRow : OpenClaim := { program := "ytmodkllhdeknoaa", sum := "0928ed75684ef847f3b3e470011539e5cbdec7230d730da2d505f26ddeee2d3a", func := "loop.example/g01215/laws.FnExactRoomLeft", spec := "fnExactRoomLeft", unfollowed := true, recurses := true, apart := false }
def FnExactRoomLeftSaid : Prop := fnExactRoomLeftRow.holds Try.pinned (OpenSpec.ofChange fnExactRoomLeftSpec)

/-- ITS FALSE NEIGHBOUR: 'it returns false'. Refute it at one input. -/
def fnExactRoomLeftWrong : ChangeSpec := { name := "fnExactRoomLeft", fn := fun _ => fun
  | [d] => { results := [.lit (.bool false)], args := [d] }
  | _ => none }
def FnExactRoomLeftWrongFalsely : Prop := fnExactRoomLeftRow.holds Try.pinned (OpenSpec.ofChange fnExactRoomLeftWrong)

/- THE SECOND FORM. 'bulk': how many values and letters a reading holds, each counted each time it is reached (what is shared counts as often as it is met; a slice's spare places count too). A statement '..UptoSaid' is the law's where the arguments, and the package variables that the reading takes, are together of bulk at most 1048576: NARROWER than '..Said'. Prove '..Said' where nothing that the law and all that it calls make is longer than what came in: it says more and counts as full. Else prove '..UptoSaid'. A law counts once. -/
mutual
def uptoBulk {H : Type} : DataW H → Nat
  | .lit (.string bytes) => bytes.length + 1
  | .lit _ => 1
  | .nil => 1
  | .ptr d => uptoBulk d + 1
  | .slice elems spare => uptoBulkAll elems + uptoBulkAll spare + 1
  | .agg parts => uptoBulkAll parts + 1
  | .iface _ d => uptoBulk d + 1
  | .map entries => uptoBulkEntries entries + 1
  | .held _ => 1
def uptoBulkAll {H : Type} : List (DataW H) → Nat
  | [] => 0
  | d :: r => uptoBulk d + uptoBulkAll r
def uptoBulkEntries {H : Type} : List (Lit × DataW H) → Nat
  | [] => 0
  | x :: r => uptoBulkEntry x + uptoBulkEntries r
def uptoBulkEntry {H : Type} : Lit × DataW H → Nat
  | (.string bytes, d) => bytes.length + uptoBulk d + 1
  | (_, d) => uptoBulk d + 1
 end
def uptoSmall : (H : Type) → List (DataW H) → Bool := fun _ ds => decide (uptoBulkAll ds ≤ 1048576)
def OpenSpec.upto (s : _root_.Go.ChangeSpec) : _root_.Go.OpenSpec := { _root_.Go.OpenSpec.ofChange s with cond := some uptoSmall }

/-- 'laws.FnExactCountRuns', WHERE WHAT IT READS IS OF BULK AT MOST 1048576: true; the input reads as it did. -/
def fnExactCountRunsUptoRow : OpenClaim := { program := "ytmodkllhdeknoaa", sum := "0928ed75684ef847f3b3e470011539e5cbdec7230d730da2d505f26ddeee2d3a", func := "loop.example/g01215/laws.FnExactCountRuns", spec := "fnExactCountRuns", unfollowed := true, recurses := true, apart := false, narrowed := true }
def FnExactCountRunsUptoSaid : Prop := fnExactCountRunsUptoRow.holds Try.pinned (OpenSpec.upto fnExactCountRunsSpec)

/-- 'laws.FnExactCountBoundaries', WHERE WHAT IT READS IS OF BULK AT MOST 1048576: true; the input reads as it did. -/
def fnExactCountBoundariesUptoRow : OpenClaim := { program := "ytmodkllhdeknoaa", sum := "0928ed75684ef847f3b3e470011539e5cbdec7230d730da2d505f26ddeee2d3a", func := "loop.example/g01215/laws.FnExactCountBoundaries", spec := "fnExactCountBoundaries", unfollowed := true, recurses := true, apart := false, narrowed := true }
def FnExactCountBoundariesUptoSaid : Prop := fnExactCountBoundariesUptoRow.holds Try.pinned (OpenSpec.upto fnExactCountBoundariesSpec)

/-- 'laws.FnExactBottomCounts', WHERE WHAT IT READS IS OF BULK AT MOST 1048576: true; the input reads as it did. -/
def fnExactBottomCountsUptoRow : OpenClaim := { program := "ytmodkllhdeknoaa", sum := "0928ed75684ef847f3b3e470011539e5cbdec7230d730da2d505f26ddeee2d3a", func := "loop.example/g01215/laws.FnExactBottomCounts", spec := "fnExactBottomCounts", unfollowed := true, recurses := true, apart := false, narrowed := true }
def FnExactBottomCountsUptoSaid : Prop := fnExactBottomCountsUptoRow.holds Try.pinned (OpenSpec.upto fnExactBottomCountsSpec)

/-- 'laws.FnExactBoundOf', WHERE WHAT IT READS IS OF BULK AT MOST 1048576: true; the input reads as it did. -/
def fnExactBoundOfUptoRow : OpenClaim := { program := "ytmodkllhdeknoaa", sum := "0928ed75684ef847f3b3e470011539e5cbdec7230d730da2d505f26ddeee2d3a", func := "loop.example/g01215/laws.FnExactBoundOf", spec := "fnExactBoundOf", unfollowed := true, recurses := true, apart := false, narrowed := true }
def FnExactBoundOfUptoSaid : Prop := fnExactBoundOfUptoRow.holds Try.pinned (OpenSpec.upto fnExactBoundOfSpec)

/-- 'laws.FnExactSpareRuns', WHERE WHAT IT READS IS OF BULK AT MOST 1048576: true; the input reads as it did. -/
def fnExactSpareRunsUptoRow : OpenClaim := { program := "ytmodkllhdeknoaa", sum := "0928ed75684ef847f3b3e470011539e5cbdec7230d730da2d505f26ddeee2d3a", func := "loop.example/g01215/laws.FnExactSpareRuns", spec := "fnExactSpareRuns", unfollowed := true, recurses := true, apart := false, narrowed := true }
def FnExactSpareRunsUptoSaid : Prop := fnExactSpareRunsUptoRow.holds Try.pinned (OpenSpec.upto fnExactSpareRunsSpec)

/-- 'laws.FnExactDoesFit', WHERE WHAT IT READS IS OF BULK AT MOST 1048576: true; the input reads as it did. -/
def fnExactDoesFitUptoRow : OpenClaim := { program := "ytmodkllhdeknoaa", sum := "0928ed75684ef847f3b3e470011539e5cbdec7230d730da2d505f26ddeee2d3a", func := "loop.example/g01215/laws.FnExactDoesFit", spec := "fnExactDoesFit", unfollowed := true, recurses := true, apart := false, narrowed := true }
def FnExactDoesFitUptoSaid : Prop := fnExactDoesFitUptoRow.holds Try.pinned (OpenSpec.upto fnExactDoesFitSpec)

/-- 'laws.FnExactRoomLeft', WHERE WHAT IT READS IS OF BULK AT MOST 1048576: true; the input reads as it did. -/
def fnExactRoomLeftUptoRow : OpenClaim := { program := "ytmodkllhdeknoaa", sum := "0928ed75684ef847f3b3e470011539e5cbdec7230d730da2d505f26ddeee2d3a", func := "loop.example/g01215/laws.FnExactRoomLeft", spec := "fnExactRoomLeft", unfollowed := true, recurses := true, apart := false, narrowed := true }
def FnExactRoomLeftUptoSaid : Prop := fnExactRoomLeftUptoRow.holds Try.pinned (OpenSpec.upto fnExactRoomLeftSpec)

end Rows
end Go.Proofs.Ytmodkllhdeknoaa
