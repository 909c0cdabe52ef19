/-
  No cell of these rows narrows 'for every input' (looked for: loops, veiled, ifaces, maps, wideKeys, modest, calm, conditions, laid).
  DERIVED. THE GIVEN ROWS OF THIS SEAT. 7 by the template 'for every input the law returns true; each argument reads behind the call as it read before'; 0 by the template 'total and deterministic' (their statements: YtalngdccjoafhaaTotals.lean).
  GIVEN WITH THE SEED: the statements are not yours to turn. If you find one false, say at which input.
  Laid BY PROGRAM, IN A SANDBOX (cutbox-rows.mjs): the forced cells as the released guide's own fill.sh prints them over the translation c8ce943bd8ce6476… (all of the seat's roots in one cut). By AI agents, Wed Nov 11 2026. No macro, syntax, notation, axiom, sorry.
-/
import Derived.Test.YtalngdccjoafhaaChecked
import GoSem.Claim
import GoSem.ClaimJoined
import GoSem.ClaimMapViews
import Derived.JoinedTies
import Derived.KernelRfl
namespace Go.Proofs.Ytalngdccjoafhaa
/- THE CELL 'sum', in the pinned program and in every row, IS THE sha256 OF THE DUMP (.gsa) THAT YtalngdccjoafhaaProg.lean LOADS. Nothing in Lean hashes anything: it is a label: what it is worth is what the hold of that sum in a sandbox is worth. -/
noncomputable def Try.pinned : Pinned := { name := "ytalngdccjoafhaa", sum := "c8ce943bd8ce6476a3f821cde3f378bd47dd0c21da926483ee5b8d60fc8244b4", checked := Try.checked }
namespace Rows
def none {H : Type} : Left H := { results := [], args := [] }

/-- 'laws.FnExactIsReplay': WHATEVER THE INPUT: true; the input reads as it did. -/
def fnExactIsReplaySpec : ChangeSpec := { name := "fnExactIsReplay", fn := fun _ => fun
  | [d] => { results := [.lit (.bool true)], args := [d] }
  | _ => none }
def fnExactIsReplayRow : OpenClaim := { program := "ytalngdccjoafhaa", sum := "c8ce943bd8ce6476a3f821cde3f378bd47dd0c21da926483ee5b8d60fc8244b4", func := "loop.example/g01215/laws.FnExactIsReplay", spec := "fnExactIsReplay", unfollowed := true, recurses := true, apart := false }
def FnExactIsReplaySaid : Prop := fnExactIsReplayRow.holds Try.pinned (OpenSpec.ofChange fnExactIsReplaySpec)

/-- ITS FALSE NEIGHBOUR: 'it returns false'. Refute it at one input. -/
def fnExactIsReplayWrong : ChangeSpec := { name := "fnExactIsReplay", fn := fun _ => fun
  | [d] => { results := [.lit (.bool false)], args := [d] }
  | _ => none }
def FnExactIsReplayWrongFalsely : Prop := fnExactIsReplayRow.holds Try.pinned (OpenSpec.ofChange fnExactIsReplayWrong)

/-- 'laws.FnExactReplayRack': WHATEVER THE INPUT: true; the input reads as it did. -/
def fnExactReplayRackSpec : ChangeSpec := { name := "fnExactReplayRack", fn := fun _ => fun
  | [d1, d2] => { results := [.lit (.bool true)], args := [d1, d2] }
  | _ => none }
def fnExactReplayRackRow : OpenClaim := { program := "ytalngdccjoafhaa", sum := "c8ce943bd8ce6476a3f821cde3f378bd47dd0c21da926483ee5b8d60fc8244b4", func := "loop.example/g01215/laws.FnExactReplayRack", spec := "fnExactReplayRack", unfollowed := true, recurses := true, apart := false }
def FnExactReplayRackSaid : Prop := fnExactReplayRackRow.holds Try.pinned (OpenSpec.ofChange fnExactReplayRackSpec)

/-- ITS FALSE NEIGHBOUR: 'it returns false'. Refute it at one input. -/
def fnExactReplayRackWrong : ChangeSpec := { name := "fnExactReplayRack", fn := fun _ => fun
  | [d1, d2] => { results := [.lit (.bool false)], args := [d1, d2] }
  | _ => none }
def FnExactReplayRackWrongFalsely : Prop := fnExactReplayRackRow.holds Try.pinned (OpenSpec.ofChange fnExactReplayRackWrong)

/-- 'laws.FnExactAddPour': WHATEVER THE INPUT: true; the input reads as it did. -/
def fnExactAddPourSpec : ChangeSpec := { name := "fnExactAddPour", fn := fun _ => fun
  | [d1, d2] => { results := [.lit (.bool true)], args := [d1, d2] }
  | _ => none }
def fnExactAddPourRow : OpenClaim := { program := "ytalngdccjoafhaa", sum := "c8ce943bd8ce6476a3f821cde3f378bd47dd0c21da926483ee5b8d60fc8244b4", func := "loop.example/g01215/laws.FnExactAddPour", spec := "fnExactAddPour", unfollowed := true, recurses := true, apart := false }
def FnExactAddPourSaid : Prop := fnExactAddPourRow.holds Try.pinned (OpenSpec.ofChange fnExactAddPourSpec)

/-- ITS FALSE NEIGHBOUR: 'it returns false'. Refute it at one input. -/
def fnExactAddPourWrong : ChangeSpec := { name := "fnExactAddPour", fn := fun _ => fun
  | [d1, d2] => { results := [.lit (.bool false)], args := [d1, d2] }
  | _ => none }
def FnExactAddPourWrongFalsely : Prop := fnExactAddPourRow.holds Try.pinned (OpenSpec.ofChange fnExactAddPourWrong)

/-- 'laws.FnExactUndoPours': WHATEVER THE INPUT: true; the input reads as it did. -/
def fnExactUndoPoursSpec : ChangeSpec := { name := "fnExactUndoPours", fn := fun _ => fun
  | [d1, d2] => { results := [.lit (.bool true)], args := [d1, d2] }
  | _ => none }
def fnExactUndoPoursRow : OpenClaim := { program := "ytalngdccjoafhaa", sum := "c8ce943bd8ce6476a3f821cde3f378bd47dd0c21da926483ee5b8d60fc8244b4", func := "loop.example/g01215/laws.FnExactUndoPours", spec := "fnExactUndoPours", unfollowed := true, recurses := true, apart := false }
def FnExactUndoPoursSaid : Prop := fnExactUndoPoursRow.holds Try.pinned (OpenSpec.ofChange fnExactUndoPoursSpec)

/-- ITS FALSE NEIGHBOUR: 'it returns false'. Refute it at one input. -/
def fnExactUndoPoursWrong : ChangeSpec := { name := "fnExactUndoPours", fn := fun _ => fun
  | [d1, d2] => { results := [.lit (.bool false)], args := [d1, d2] }
  | _ => none }
def FnExactUndoPoursWrongFalsely : Prop := fnExactUndoPoursRow.holds Try.pinned (OpenSpec.ofChange fnExactUndoPoursWrong)

/-- 'laws.FnExactDoesSolve': WHATEVER THE INPUT: true; the input reads as it did. -/
def fnExactDoesSolveSpec : ChangeSpec := { name := "fnExactDoesSolve", fn := fun _ => fun
  | [d] => { results := [.lit (.bool true)], args := [d] }
  | _ => none }
def fnExactDoesSolveRow : OpenClaim := { program := "ytalngdccjoafhaa", sum := "c8ce943bd8ce6476a3f821cde3f378bd47dd0c21da926483ee5b8d60fc8244b4", func := "loop.example/g01215/laws.FnExactDoesSolve", spec := "fnExactDoesSolve", unfollowed := true, recurses := true, apart := false }
def FnExactDoesSolveSaid : Prop := fnExactDoesSolveRow.holds Try.pinned (OpenSpec.ofChange fnExactDoesSolveSpec)

/-- ITS FALSE NEIGHBOUR: 'it returns false'. Refute it at one input. -/
def fnExactDoesSolveWrong : ChangeSpec := { name := "fnExactDoesSolve", fn := fun _ => fun
  | [d] => { results := [.lit (.bool false)], args := [d] }
  | _ => none }
def FnExactDoesSolveWrongFalsely : Prop := fnExactDoesSolveRow.holds Try.pinned (OpenSpec.ofChange fnExactDoesSolveWrong)

/-- 'laws.FnExactLoopsOf': WHATEVER THE INPUT: true; the input reads as it did. -/
def fnExactLoopsOfSpec : ChangeSpec := { name := "fnExactLoopsOf", fn := fun _ => fun
  | [d] => { results := [.lit (.bool true)], args := [d] }
  | _ => none }
def fnExactLoopsOfRow : OpenClaim := { program := "ytalngdccjoafhaa", sum := "c8ce943bd8ce6476a3f821cde3f378bd47dd0c21da926483ee5b8d60fc8244b4", func := "loop.example/g01215/laws.FnExactLoopsOf", spec := "fnExactLoopsOf", unfollowed := true, recurses := true, apart := false }
def FnExactLoopsOfSaid : Prop := fnExactLoopsOfRow.holds Try.pinned (OpenSpec.ofChange fnExactLoopsOfSpec)

/-- ITS FALSE NEIGHBOUR: 'it returns false'. Refute it at one input. -/
def fnExactLoopsOfWrong : ChangeSpec := { name := "fnExactLoopsOf", fn := fun _ => fun
  | [d] => { results := [.lit (.bool false)], args := [d] }
  | _ => none }
def FnExactLoopsOfWrongFalsely : Prop := fnExactLoopsOfRow.holds Try.pinned (OpenSpec.ofChange fnExactLoopsOfWrong)

/-- 'laws.FnExactCutLoops': WHATEVER THE INPUT: true; the input reads as it did. -/
def fnExactCutLoopsSpec : ChangeSpec := { name := "fnExactCutLoops", fn := fun _ => fun
  | [d] => { results := [.lit (.bool true)], args := [d] }
  | _ => none }
def fnExactCutLoopsRow : OpenClaim := { program := "ytalngdccjoafhaa", sum := "c8ce943bd8ce6476a3f821cde3f378bd47dd0c21da926483ee5b8d60fc8244b4", func := "loop.example/g01215/laws.FnExactCutLoops", spec := "fnExactCutLoops", unfollowed := true, recurses := true, apart := false }
def FnExactCutLoopsSaid : Prop := fnExactCutLoopsRow.holds Try.pinned (OpenSpec.ofChange fnExactCutLoopsSpec)

/-- ITS FALSE NEIGHBOUR: 'it returns false'. Refute it at one input. -/
def fnExactCutLoopsWrong : ChangeSpec := { name := "fnExactCutLoops", fn := fun _ => fun
  | [d] => { results := [.lit (.bool false)], args := [d] }
  | _ => none }
def FnExactCutLoopsWrongFalsely : Prop := fnExactCutLoopsRow.holds Try.pinned (OpenSpec.ofChange fnExactCutLoopsWrong)

/- THE SECOND FORM. 'bulk': how many values and letters a reading holds, each counted each time it is reached (what is shared counts as often as it is met; a slice's spare places count too). A statement '..UptoSaid' is the law's where the arguments, and the package variables that the reading takes, are together of bulk at most 1048576: NARROWER than '..Said'. Prove '..Said' where nothing that the law and all that it calls make is longer than what came in: it says more and counts as full. Else prove '..UptoSaid'. A law counts once. -/
mutual
def uptoBulk {H : Type} : DataW H → Nat
  | .lit (.string bytes) => bytes.length + 1
  | .lit _ => 1
  | .nil => 1
  | .ptr d => uptoBulk d + 1
  | .slice elems spare => uptoBulkAll elems + uptoBulkAll spare + 1
  | .agg parts => uptoBulkAll parts + 1
  | .iface _ d => uptoBulk d + 1
  | .map entries => uptoBulkEntries entries + 1
  | .held _ => 1
def uptoBulkAll {H : Type} : List (DataW H) → Nat
  | [] => 0
  | d :: r => uptoBulk d + uptoBulkAll r
def uptoBulkEntries {H : Type} : List (Lit × DataW H) → Nat
  | [] => 0
  | x :: r => uptoBulkEntry x + uptoBulkEntries r
def uptoBulkEntry {H : Type} : Lit × DataW H → Nat
  | (.string bytes, d) => bytes.length + uptoBulk d + 1
  | (_, d) => uptoBulk d + 1
 end
def uptoSmall : (H : Type) → List (DataW H) → Bool := fun _ ds => decide (uptoBulkAll ds ≤ 1048576)
def OpenSpec.upto (s : _root_.Go.ChangeSpec) : _root_.Go.OpenSpec := { _root_.Go.OpenSpec.ofChange s with cond := some uptoSmall }

/-- 'laws.FnExactIsReplay', WHERE WHAT IT READS IS OF BULK AT MOST 1048576: true; the input reads as it did. -/
def fnExactIsReplayUptoRow : OpenClaim := { program := "ytalngdccjoafhaa", sum := "c8ce943bd8ce6476a3f821cde3f378bd47dd0c21da926483ee5b8d60fc8244b4", func := "loop.example/g01215/laws.FnExactIsReplay", spec := "fnExactIsReplay", unfollowed := true, recurses := true, apart := false, narrowed := true }
def FnExactIsReplayUptoSaid : Prop := fnExactIsReplayUptoRow.holds Try.pinned (OpenSpec.upto fnExactIsReplaySpec)

/-- 'laws.FnExactReplayRack', WHERE WHAT IT READS IS OF BULK AT MOST 1048576: true; the input reads as it did. -/
def fnExactReplayRackUptoRow : OpenClaim := { program := "ytalngdccjoafhaa", sum := "c8ce943bd8ce6476a3f821cde3f378bd47dd0c21da926483ee5b8d60fc8244b4", func := "loop.example/g01215/laws.FnExactReplayRack", spec := "fnExactReplayRack", unfollowed := true, recurses := true, apart := false, narrowed := true }
def FnExactReplayRackUptoSaid : Prop := fnExactReplayRackUptoRow.holds Try.pinned (OpenSpec.upto fnExactReplayRackSpec)

/-- 'laws.FnExactAddPour', WHERE WHAT IT READS IS OF BULK AT MOST 1048576: true; the input reads as it did. -/
def fnExactAddPourUptoRow : OpenClaim := { program := "ytalngdccjoafhaa", sum := "c8ce943bd8ce6476a3f821cde3f378bd47dd0c21da926483ee5b8d60fc8244b4", func := "loop.example/g01215/laws.FnExactAddPour", spec := "fnExactAddPour", unfollowed := true, recurses := true, apart := false, narrowed := true }
def FnExactAddPourUptoSaid : Prop := fnExactAddPourUptoRow.holds Try.pinned (OpenSpec.upto fnExactAddPourSpec)

/-- 'laws.FnExactUndoPours', WHERE WHAT IT READS IS OF BULK AT MOST 1048576: true; the input reads as it did. -/
def fnExactUndoPoursUptoRow : OpenClaim := { program := "ytalngdccjoafhaa", sum := "c8ce943bd8ce6476a3f821cde3f378bd47dd0c21da926483ee5b8d60fc8244b4", func := "loop.example/g01215/laws.FnExactUndoPours", spec := "fnExactUndoPours", unfollowed := true, recurses := true, apart := false, narrowed := true }
def FnExactUndoPoursUptoSaid : Prop := fnExactUndoPoursUptoRow.holds Try.pinned (OpenSpec.upto fnExactUndoPoursSpec)

/-- 'laws.FnExactDoesSolve', WHERE WHAT IT READS IS OF BULK AT MOST 1048576: true; the input reads as it did. -/
def fnExactDoesSolveUptoRow : OpenClaim := { program := "ytalngdccjoafhaa", sum := "c8ce943bd8ce6476a3f821cde3f378bd47dd0c21da926483ee5b8d60fc8244b4", func := "loop.example/g01215/laws.FnExactDoesSolve", spec := "fnExactDoesSolve", unfollowed := true, recurses := true, apart := false, narrowed := true }
def FnExactDoesSolveUptoSaid : Prop := fnExactDoesSolveUptoRow.holds Try.pinned (OpenSpec.upto fnExactDoesSolveSpec)

/-- 'laws.FnExactLoopsOf', WHERE WHAT IT READS IS OF BULK AT MOST 1048576: true; the input reads as it did. -/
def fnExactLoopsOfUptoRow : OpenClaim := { program := "ytalngdccjoafhaa", sum := "c8ce943bd8ce6476a3f821cde3f378bd47dd0c21da926483ee5b8d60fc8244b4", func := "loop.example/g01215/laws.FnExactLoopsOf", spec := "fnExactLoopsOf", unfollowed := true, recurses := true, apart := false, narrowed := true }
def FnExactLoopsOfUptoSaid : Prop := fnExactLoopsOfUptoRow.holds Try.pinned (OpenSpec.upto fnExactLoopsOfSpec)

/-- 'laws.FnExactCutLoops', WHERE WHAT IT READS IS OF BULK AT MOST 1048576: true; the input reads as it did. -/
def fnExactCutLoopsUptoRow : OpenClaim := { program := "ytalngdccjoafhaa", sum := "c8ce943bd8ce6476a3f821cde3f378bd47dd0c21da926483ee5b8d60fc8244b4", func := "loop.example/g01215/laws.FnExactCutLoops", spec := "fnExactCutLoops", unfollowed := true, recurses := true, apart := false, narrowed := true }
def FnExactCutLoopsUptoSaid : Prop := fnExactCutLoopsUptoRow.holds Try.pinned (OpenSpec.upto fnExactCutLoopsSpec)

end Rows
end Go.Proofs.Ytalngdccjoafhaa
