/-
  No cell of these rows narrows 'for every input' (looked for: loops, veiled, ifaces, maps, wideKeys, modest, calm, conditions, laid).
  DERIVED. THE GIVEN ROWS OF THIS SEAT. 8 by the template 'for every input the law returns true; each argument reads behind the call as it read before'; 0 by the template 'total and deterministic' (their statements: YtemiljokdedidabTotals.lean).
  GIVEN WITH THE SEED: the statements are not yours to turn. If you find one false, say at which input.
  Laid BY PROGRAM, IN A SANDBOX (cutbox-rows.mjs): the forced cells as the released guide's own fill.sh prints them over the translation ce3085f0e8160994… (all of the seat's roots in one cut). By AI agents, Wed Nov 11 2026. No macro, syntax, notation, axiom, sorry.
-/
import Derived.Test.YtemiljokdedidabChecked
import GoSem.Claim
import GoSem.ClaimJoined
import GoSem.ClaimMapViews
import Derived.JoinedTies
import Derived.KernelRfl
namespace Go.Proofs.Ytemiljokdedidab
/- THE CELL 'sum', in the pinned program and in every row, IS THE sha256 OF THE DUMP (.gsa) THAT YtemiljokdedidabProg.lean LOADS. Nothing in Lean hashes anything: it is a label: what it is worth is what the hold of that sum in a sandbox is worth. -/
noncomputable def Try.pinned : Pinned := { name := "ytemiljokdedidab", sum := "ce3085f0e81609941dd056931a5481ff12949da5fc935e7539d66db4a5f78209", checked := Try.checked }
namespace Rows
def none {H : Type} : Left H := { results := [], args := [] }

/-- 'laws.FnExactFirstCandidate': WHATEVER THE INPUT: true; the input reads as it did. -/
def fnExactFirstCandidateSpec : ChangeSpec := { name := "fnExactFirstCandidate", fn := fun _ => fun
  | [d] => { results := [.lit (.bool true)], args := [d] }
  | _ => none }
def fnExactFirstCandidateRow : OpenClaim := { program := "ytemiljokdedidab", sum := "ce3085f0e81609941dd056931a5481ff12949da5fc935e7539d66db4a5f78209", func := "loop.example/g01215/laws.FnExactFirstCandidate", spec := "fnExactFirstCandidate", apart := false }
def FnExactFirstCandidateSaid : Prop := fnExactFirstCandidateRow.holds Try.pinned (OpenSpec.ofChange fnExactFirstCandidateSpec)

/-- ITS FALSE NEIGHBOUR: 'it returns false'. Refute it at one input. -/
def fnExactFirstCandidateWrong : ChangeSpec := { name := "fnExactFirstCandidate", fn := fun _ => fun
  | [d] => { results := [.lit (.bool false)], args := [d] }
  | _ => none }
def FnExactFirstCandidateWrongFalsely : Prop := fnExactFirstCandidateRow.holds Try.pinned (OpenSpec.ofChange fnExactFirstCandidateWrong)

/-- 'laws.FnExactRankOfRack': WHATEVER THE INPUT: true; the input reads as it did. -/
def fnExactRankOfRackSpec : ChangeSpec := { name := "fnExactRankOfRack", fn := fun _ => fun
  | [d] => { results := [.lit (.bool true)], args := [d] }
  | _ => none }
def fnExactRankOfRackRow : OpenClaim := { program := "ytemiljokdedidab", sum := "ce3085f0e81609941dd056931a5481ff12949da5fc935e7539d66db4a5f78209", func := "loop.example/g01215/laws.FnExactRankOfRack", spec := "fnExactRankOfRack", unfollowed := true, recurses := true, apart := false }
def FnExactRankOfRackSaid : Prop := fnExactRankOfRackRow.holds Try.pinned (OpenSpec.ofChange fnExactRankOfRackSpec)

/-- ITS FALSE NEIGHBOUR: 'it returns false'. Refute it at one input. -/
def fnExactRankOfRackWrong : ChangeSpec := { name := "fnExactRankOfRack", fn := fun _ => fun
  | [d] => { results := [.lit (.bool false)], args := [d] }
  | _ => none }
def FnExactRankOfRackWrongFalsely : Prop := fnExactRankOfRackRow.holds Try.pinned (OpenSpec.ofChange fnExactRankOfRackWrong)

/-- 'laws.FnExactCandidateAt': WHATEVER THE INPUT: true; the input reads as it did. -/
def fnExactCandidateAtSpec : ChangeSpec := { name := "fnExactCandidateAt", fn := fun _ => fun
  | [d1, d2] => { results := [.lit (.bool true)], args := [d1, d2] }
  | _ => none }
def fnExactCandidateAtRow : OpenClaim := { program := "ytemiljokdedidab", sum := "ce3085f0e81609941dd056931a5481ff12949da5fc935e7539d66db4a5f78209", func := "loop.example/g01215/laws.FnExactCandidateAt", spec := "fnExactCandidateAt", apart := false }
def FnExactCandidateAtSaid : Prop := fnExactCandidateAtRow.holds Try.pinned (OpenSpec.ofChange fnExactCandidateAtSpec)

/-- ITS FALSE NEIGHBOUR: 'it returns false'. Refute it at one input. -/
def fnExactCandidateAtWrong : ChangeSpec := { name := "fnExactCandidateAt", fn := fun _ => fun
  | [d1, d2] => { results := [.lit (.bool false)], args := [d1, d2] }
  | _ => none }
def FnExactCandidateAtWrongFalsely : Prop := fnExactCandidateAtRow.holds Try.pinned (OpenSpec.ofChange fnExactCandidateAtWrong)

/-- 'laws.FnExactChanceBelow': WHATEVER THE INPUT: true; the input reads as it did. -/
def fnExactChanceBelowSpec : ChangeSpec := { name := "fnExactChanceBelow", fn := fun _ => fun
  | [d1, d2, d3] => { results := [.lit (.bool true)], args := [d1, d2, d3] }
  | _ => none }
def fnExactChanceBelowRow : OpenClaim := { program := "ytemiljokdedidab", sum := "ce3085f0e81609941dd056931a5481ff12949da5fc935e7539d66db4a5f78209", func := "loop.example/g01215/laws.FnExactChanceBelow", spec := "fnExactChanceBelow", apart := false }
def FnExactChanceBelowSaid : Prop := fnExactChanceBelowRow.holds Try.pinned (OpenSpec.ofChange fnExactChanceBelowSpec)

/-- ITS FALSE NEIGHBOUR: 'it returns false'. Refute it at one input. -/
def fnExactChanceBelowWrong : ChangeSpec := { name := "fnExactChanceBelow", fn := fun _ => fun
  | [d1, d2, d3] => { results := [.lit (.bool false)], args := [d1, d2, d3] }
  | _ => none }
def FnExactChanceBelowWrongFalsely : Prop := fnExactChanceBelowRow.holds Try.pinned (OpenSpec.ofChange fnExactChanceBelowWrong)

/-- 'laws.FnExactChanceTop': WHATEVER THE INPUT: true; the input reads as it did. -/
def fnExactChanceTopSpec : ChangeSpec := { name := "fnExactChanceTop", fn := fun _ => fun
  | [d1, d2, d3] => { results := [.lit (.bool true)], args := [d1, d2, d3] }
  | _ => none }
def fnExactChanceTopRow : OpenClaim := { program := "ytemiljokdedidab", sum := "ce3085f0e81609941dd056931a5481ff12949da5fc935e7539d66db4a5f78209", func := "loop.example/g01215/laws.FnExactChanceTop", spec := "fnExactChanceTop", apart := false }
def FnExactChanceTopSaid : Prop := fnExactChanceTopRow.holds Try.pinned (OpenSpec.ofChange fnExactChanceTopSpec)

/-- ITS FALSE NEIGHBOUR: 'it returns false'. Refute it at one input. -/
def fnExactChanceTopWrong : ChangeSpec := { name := "fnExactChanceTop", fn := fun _ => fun
  | [d1, d2, d3] => { results := [.lit (.bool false)], args := [d1, d2, d3] }
  | _ => none }
def FnExactChanceTopWrongFalsely : Prop := fnExactChanceTopRow.holds Try.pinned (OpenSpec.ofChange fnExactChanceTopWrong)

/-- 'laws.FnExactMeanMoved': WHATEVER THE INPUT: true; the input reads as it did. -/
def fnExactMeanMovedSpec : ChangeSpec := { name := "fnExactMeanMoved", fn := fun _ => fun
  | [d1, d2, d3] => { results := [.lit (.bool true)], args := [d1, d2, d3] }
  | _ => none }
def fnExactMeanMovedRow : OpenClaim := { program := "ytemiljokdedidab", sum := "ce3085f0e81609941dd056931a5481ff12949da5fc935e7539d66db4a5f78209", func := "loop.example/g01215/laws.FnExactMeanMoved", spec := "fnExactMeanMoved", unfollowed := true, recurses := true, apart := false }
def FnExactMeanMovedSaid : Prop := fnExactMeanMovedRow.holds Try.pinned (OpenSpec.ofChange fnExactMeanMovedSpec)

/-- ITS FALSE NEIGHBOUR: 'it returns false'. Refute it at one input. -/
def fnExactMeanMovedWrong : ChangeSpec := { name := "fnExactMeanMoved", fn := fun _ => fun
  | [d1, d2, d3] => { results := [.lit (.bool false)], args := [d1, d2, d3] }
  | _ => none }
def FnExactMeanMovedWrongFalsely : Prop := fnExactMeanMovedRow.holds Try.pinned (OpenSpec.ofChange fnExactMeanMovedWrong)

/-- 'laws.FnExactCanPourAt': WHATEVER THE INPUT: true; the input reads as it did. -/
def fnExactCanPourAtSpec : ChangeSpec := { name := "fnExactCanPourAt", fn := fun _ => fun
  | [d1, d2, d3] => { results := [.lit (.bool true)], args := [d1, d2, d3] }
  | _ => none }
def fnExactCanPourAtRow : OpenClaim := { program := "ytemiljokdedidab", sum := "ce3085f0e81609941dd056931a5481ff12949da5fc935e7539d66db4a5f78209", func := "loop.example/g01215/laws.FnExactCanPourAt", spec := "fnExactCanPourAt", unfollowed := true, recurses := true, apart := false }
def FnExactCanPourAtSaid : Prop := fnExactCanPourAtRow.holds Try.pinned (OpenSpec.ofChange fnExactCanPourAtSpec)

/-- ITS FALSE NEIGHBOUR: 'it returns false'. Refute it at one input. -/
def fnExactCanPourAtWrong : ChangeSpec := { name := "fnExactCanPourAt", fn := fun _ => fun
  | [d1, d2, d3] => { results := [.lit (.bool false)], args := [d1, d2, d3] }
  | _ => none }
def FnExactCanPourAtWrongFalsely : Prop := fnExactCanPourAtRow.holds Try.pinned (OpenSpec.ofChange fnExactCanPourAtWrong)

/-- 'laws.FnExactViewBehind': WHATEVER THE INPUT: true; the input reads as it did. -/
def fnExactViewBehindSpec : ChangeSpec := { name := "fnExactViewBehind", fn := fun _ => fun
  | [d1, d2, d3] => { results := [.lit (.bool true)], args := [d1, d2, d3] }
  | _ => none }
def fnExactViewBehindRow : OpenClaim := { program := "ytemiljokdedidab", sum := "ce3085f0e81609941dd056931a5481ff12949da5fc935e7539d66db4a5f78209", func := "loop.example/g01215/laws.FnExactViewBehind", spec := "fnExactViewBehind", unfollowed := true, recurses := true, apart := false }
def FnExactViewBehindSaid : Prop := fnExactViewBehindRow.holds Try.pinned (OpenSpec.ofChange fnExactViewBehindSpec)

/-- ITS FALSE NEIGHBOUR: 'it returns false'. Refute it at one input. -/
def fnExactViewBehindWrong : ChangeSpec := { name := "fnExactViewBehind", fn := fun _ => fun
  | [d1, d2, d3] => { results := [.lit (.bool false)], args := [d1, d2, d3] }
  | _ => none }
def FnExactViewBehindWrongFalsely : Prop := fnExactViewBehindRow.holds Try.pinned (OpenSpec.ofChange fnExactViewBehindWrong)

/- THE SECOND FORM. 'bulk': how many values and letters a reading holds, each counted each time it is reached (what is shared counts as often as it is met; a slice's spare places count too). A statement '..UptoSaid' is the law's where the arguments, and the package variables that the reading takes, are together of bulk at most 1048576: NARROWER than '..Said'. Prove '..Said' where nothing that the law and all that it calls make is longer than what came in: it says more and counts as full. Else prove '..UptoSaid'. A law counts once. -/
mutual
def uptoBulk {H : Type} : DataW H → Nat
  | .lit (.string bytes) => bytes.length + 1
  | .lit _ => 1
  | .nil => 1
  | .ptr d => uptoBulk d + 1
  | .slice elems spare => uptoBulkAll elems + uptoBulkAll spare + 1
  | .agg parts => uptoBulkAll parts + 1
  | .iface _ d => uptoBulk d + 1
  | .map entries => uptoBulkEntries entries + 1
  | .held _ => 1
def uptoBulkAll {H : Type} : List (DataW H) → Nat
  | [] => 0
  | d :: r => uptoBulk d + uptoBulkAll r
def uptoBulkEntries {H : Type} : List (Lit × DataW H) → Nat
  | [] => 0
  | x :: r => uptoBulkEntry x + uptoBulkEntries r
def uptoBulkEntry {H : Type} : Lit × DataW H → Nat
  | (.string bytes, d) => bytes.length + uptoBulk d + 1
  | (_, d) => uptoBulk d + 1
 end
def uptoSmall : (H : Type) → List (DataW H) → Bool := fun _ ds => decide (uptoBulkAll ds ≤ 1048576)
def OpenSpec.upto (s : _root_.Go.ChangeSpec) : _root_.Go.OpenSpec := { _root_.Go.OpenSpec.ofChange s with cond := some uptoSmall }

/-- 'laws.FnExactFirstCandidate', WHERE WHAT IT READS IS OF BULK AT MOST 1048576: true; the input reads as it did. -/
def fnExactFirstCandidateUptoRow : OpenClaim := { program := "ytemiljokdedidab", sum := "ce3085f0e81609941dd056931a5481ff12949da5fc935e7539d66db4a5f78209", func := "loop.example/g01215/laws.FnExactFirstCandidate", spec := "fnExactFirstCandidate", apart := false, narrowed := true }
def FnExactFirstCandidateUptoSaid : Prop := fnExactFirstCandidateUptoRow.holds Try.pinned (OpenSpec.upto fnExactFirstCandidateSpec)

/-- 'laws.FnExactRankOfRack', WHERE WHAT IT READS IS OF BULK AT MOST 1048576: true; the input reads as it did. -/
def fnExactRankOfRackUptoRow : OpenClaim := { program := "ytemiljokdedidab", sum := "ce3085f0e81609941dd056931a5481ff12949da5fc935e7539d66db4a5f78209", func := "loop.example/g01215/laws.FnExactRankOfRack", spec := "fnExactRankOfRack", unfollowed := true, recurses := true, apart := false, narrowed := true }
def FnExactRankOfRackUptoSaid : Prop := fnExactRankOfRackUptoRow.holds Try.pinned (OpenSpec.upto fnExactRankOfRackSpec)

/-- 'laws.FnExactCandidateAt', WHERE WHAT IT READS IS OF BULK AT MOST 1048576: true; the input reads as it did. -/
def fnExactCandidateAtUptoRow : OpenClaim := { program := "ytemiljokdedidab", sum := "ce3085f0e81609941dd056931a5481ff12949da5fc935e7539d66db4a5f78209", func := "loop.example/g01215/laws.FnExactCandidateAt", spec := "fnExactCandidateAt", apart := false, narrowed := true }
def FnExactCandidateAtUptoSaid : Prop := fnExactCandidateAtUptoRow.holds Try.pinned (OpenSpec.upto fnExactCandidateAtSpec)

/-- 'laws.FnExactChanceBelow', WHERE WHAT IT READS IS OF BULK AT MOST 1048576: true; the input reads as it did. -/
def fnExactChanceBelowUptoRow : OpenClaim := { program := "ytemiljokdedidab", sum := "ce3085f0e81609941dd056931a5481ff12949da5fc935e7539d66db4a5f78209", func := "loop.example/g01215/laws.FnExactChanceBelow", spec := "fnExactChanceBelow", apart := false, narrowed := true }
def FnExactChanceBelowUptoSaid : Prop := fnExactChanceBelowUptoRow.holds Try.pinned (OpenSpec.upto fnExactChanceBelowSpec)

/-- 'laws.FnExactChanceTop', WHERE WHAT IT READS IS OF BULK AT MOST 1048576: true; the input reads as it did. -/
def fnExactChanceTopUptoRow : OpenClaim := { program := "ytemiljokdedidab", sum := "ce3085f0e81609941dd056931a5481ff12949da5fc935e7539d66db4a5f78209", func := "loop.example/g01215/laws.FnExactChanceTop", spec := "fnExactChanceTop", apart := false, narrowed := true }
def FnExactChanceTopUptoSaid : Prop := fnExactChanceTopUptoRow.holds Try.pinned (OpenSpec.upto fnExactChanceTopSpec)

/-- 'laws.FnExactMeanMoved', WHERE WHAT IT READS IS OF BULK AT MOST 1048576: true; the input reads as it did. -/
def fnExactMeanMovedUptoRow : OpenClaim := { program := "ytemiljokdedidab", sum := "ce3085f0e81609941dd056931a5481ff12949da5fc935e7539d66db4a5f78209", func := "loop.example/g01215/laws.FnExactMeanMoved", spec := "fnExactMeanMoved", unfollowed := true, recurses := true, apart := false, narrowed := true }
def FnExactMeanMovedUptoSaid : Prop := fnExactMeanMovedUptoRow.holds Try.pinned (OpenSpec.upto fnExactMeanMovedSpec)

/-- 'laws.FnExactCanPourAt', WHERE WHAT IT READS IS OF BULK AT MOST 1048576: true; the input reads as it did. -/
def fnExactCanPourAtUptoRow : OpenClaim := { program := "ytemiljokdedidab", sum := "ce3085f0e81609941dd056931a5481ff12949da5fc935e7539d66db4a5f78209", func := "loop.example/g01215/laws.FnExactCanPourAt", spec := "fnExactCanPourAt", unfollowed := true, recurses := true, apart := false, narrowed := true }
def FnExactCanPourAtUptoSaid : Prop := fnExactCanPourAtUptoRow.holds Try.pinned (OpenSpec.upto fnExactCanPourAtSpec)

/-- 'laws.FnExactViewBehind', WHERE WHAT IT READS IS OF BULK AT MOST 1048576: true; the input reads as it did. -/
def fnExactViewBehindUptoRow : OpenClaim := { program := "ytemiljokdedidab", sum := "ce3085f0e81609941dd056931a5481ff12949da5fc935e7539d66db4a5f78209", func := "loop.example/g01215/laws.FnExactViewBehind", spec := "fnExactViewBehind", unfollowed := true, recurses := true, apart := false, narrowed := true }
def FnExactViewBehindUptoSaid : Prop := fnExactViewBehindUptoRow.holds Try.pinned (OpenSpec.upto fnExactViewBehindSpec)

end Rows
end Go.Proofs.Ytemiljokdedidab
