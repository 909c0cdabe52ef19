/-
  No cell of these rows narrows 'for every input' (looked for: loops, veiled, ifaces, maps, wideKeys, modest, calm, conditions, laid).
  DERIVED. THE GIVEN ROWS OF THIS SEAT. 7 by the template 'for every input the law returns true; each argument reads behind the call as it read before'; 0 by the template 'total and deterministic' (their statements: YtienbokkimnecaaTotals.lean).
  GIVEN WITH THE SEED: the statements are not yours to turn. If you find one false, say at which input.
  Laid BY PROGRAM, IN A SANDBOX (cutbox-rows.mjs): the forced cells as the released guide's own fill.sh prints them over the translation ed165532b8595a51… (all of the seat's roots in one cut). By AI agents, Wed Nov 11 2026. No macro, syntax, notation, axiom, sorry.
-/
import Derived.Test.YtienbokkimnecaaChecked
import GoSem.Claim
import GoSem.ClaimJoined
import GoSem.ClaimMapViews
import Derived.JoinedTies
import Derived.KernelRfl
namespace Go.Proofs.Ytienbokkimnecaa
/- THE CELL 'sum', in the pinned program and in every row, IS THE sha256 OF THE DUMP (.gsa) THAT YtienbokkimnecaaProg.lean LOADS. Nothing in Lean hashes anything: it is a label: what it is worth is what the hold of that sum in a sandbox is worth. -/
noncomputable def Try.pinned : Pinned := { name := "ytienbokkimnecaa", sum := "ed165532b8595a519bf5178fd254e1908444dbaa6f7e4139af472d3267d23149", checked := Try.checked }
namespace Rows
def none {H : Type} : Left H := { results := [], args := [] }

/-- 'laws.FnExactViewOf': WHATEVER THE INPUT: true; the input reads as it did. -/
def fnExactViewOfSpec : ChangeSpec := { name := "fnExactViewOf", fn := fun _ => fun
  | [d] => { results := [.lit (.bool true)], args := [d] }
  | _ => none }
def fnExactViewOfRow : OpenClaim := { program := "ytienbokkimnecaa", sum := "ed165532b8595a519bf5178fd254e1908444dbaa6f7e4139af472d3267d23149", func := "loop.example/g01215/laws.FnExactViewOf", spec := "fnExactViewOf", unfollowed := true, recurses := true, apart := false }
def FnExactViewOfSaid : Prop := fnExactViewOfRow.holds Try.pinned (OpenSpec.ofChange fnExactViewOfSpec)

/-- ITS FALSE NEIGHBOUR: 'it returns false'. Refute it at one input. -/
def fnExactViewOfWrong : ChangeSpec := { name := "fnExactViewOf", fn := fun _ => fun
  | [d] => { results := [.lit (.bool false)], args := [d] }
  | _ => none }
def FnExactViewOfWrongFalsely : Prop := fnExactViewOfRow.holds Try.pinned (OpenSpec.ofChange fnExactViewOfWrong)

/-- 'laws.FnExactIsView': WHATEVER THE INPUT: true; the input reads as it did. -/
def fnExactIsViewSpec : ChangeSpec := { name := "fnExactIsView", fn := fun _ => fun
  | [d] => { results := [.lit (.bool true)], args := [d] }
  | _ => none }
def fnExactIsViewRow : OpenClaim := { program := "ytienbokkimnecaa", sum := "ed165532b8595a519bf5178fd254e1908444dbaa6f7e4139af472d3267d23149", func := "loop.example/g01215/laws.FnExactIsView", spec := "fnExactIsView", apart := false }
def FnExactIsViewSaid : Prop := fnExactIsViewRow.holds Try.pinned (OpenSpec.ofChange fnExactIsViewSpec)

/-- ITS FALSE NEIGHBOUR: 'it returns false'. Refute it at one input. -/
def fnExactIsViewWrong : ChangeSpec := { name := "fnExactIsView", fn := fun _ => fun
  | [d] => { results := [.lit (.bool false)], args := [d] }
  | _ => none }
def FnExactIsViewWrongFalsely : Prop := fnExactIsViewRow.holds Try.pinned (OpenSpec.ofChange fnExactIsViewWrong)

/-- 'laws.FnExactCountHidden': WHATEVER THE INPUT: true; the input reads as it did. -/
def fnExactCountHiddenSpec : ChangeSpec := { name := "fnExactCountHidden", fn := fun _ => fun
  | [d] => { results := [.lit (.bool true)], args := [d] }
  | _ => none }
def fnExactCountHiddenRow : OpenClaim := { program := "ytienbokkimnecaa", sum := "ed165532b8595a519bf5178fd254e1908444dbaa6f7e4139af472d3267d23149", func := "loop.example/g01215/laws.FnExactCountHidden", spec := "fnExactCountHidden", apart := false }
def FnExactCountHiddenSaid : Prop := fnExactCountHiddenRow.holds Try.pinned (OpenSpec.ofChange fnExactCountHiddenSpec)

/-- ITS FALSE NEIGHBOUR: 'it returns false'. Refute it at one input. -/
def fnExactCountHiddenWrong : ChangeSpec := { name := "fnExactCountHidden", fn := fun _ => fun
  | [d] => { results := [.lit (.bool false)], args := [d] }
  | _ => none }
def FnExactCountHiddenWrongFalsely : Prop := fnExactCountHiddenRow.holds Try.pinned (OpenSpec.ofChange fnExactCountHiddenWrong)

/-- 'laws.FnExactCountCandidates': WHATEVER THE INPUT: true; the input reads as it did. -/
def fnExactCountCandidatesSpec : ChangeSpec := { name := "fnExactCountCandidates", fn := fun _ => fun
  | [d] => { results := [.lit (.bool true)], args := [d] }
  | _ => none }
def fnExactCountCandidatesRow : OpenClaim := { program := "ytienbokkimnecaa", sum := "ed165532b8595a519bf5178fd254e1908444dbaa6f7e4139af472d3267d23149", func := "loop.example/g01215/laws.FnExactCountCandidates", spec := "fnExactCountCandidates", apart := false }
def FnExactCountCandidatesSaid : Prop := fnExactCountCandidatesRow.holds Try.pinned (OpenSpec.ofChange fnExactCountCandidatesSpec)

/-- ITS FALSE NEIGHBOUR: 'it returns false'. Refute it at one input. -/
def fnExactCountCandidatesWrong : ChangeSpec := { name := "fnExactCountCandidates", fn := fun _ => fun
  | [d] => { results := [.lit (.bool false)], args := [d] }
  | _ => none }
def FnExactCountCandidatesWrongFalsely : Prop := fnExactCountCandidatesRow.holds Try.pinned (OpenSpec.ofChange fnExactCountCandidatesWrong)

/-- 'laws.FnExactRankOfRack': WHATEVER THE INPUT: true; the input reads as it did. -/
def fnExactRankOfRackSpec : ChangeSpec := { name := "fnExactRankOfRack", fn := fun _ => fun
  | [d] => { results := [.lit (.bool true)], args := [d] }
  | _ => none }
def fnExactRankOfRackRow : OpenClaim := { program := "ytienbokkimnecaa", sum := "ed165532b8595a519bf5178fd254e1908444dbaa6f7e4139af472d3267d23149", func := "loop.example/g01215/laws.FnExactRankOfRack", spec := "fnExactRankOfRack", unfollowed := true, recurses := true, apart := false }
def FnExactRankOfRackSaid : Prop := fnExactRankOfRackRow.holds Try.pinned (OpenSpec.ofChange fnExactRankOfRackSpec)

/-- ITS FALSE NEIGHBOUR: 'it returns false'. Refute it at one input. -/
def fnExactRankOfRackWrong : ChangeSpec := { name := "fnExactRankOfRack", fn := fun _ => fun
  | [d] => { results := [.lit (.bool false)], args := [d] }
  | _ => none }
def FnExactRankOfRackWrongFalsely : Prop := fnExactRankOfRackRow.holds Try.pinned (OpenSpec.ofChange fnExactRankOfRackWrong)

/-- 'laws.FnExactCandidateAt': WHATEVER THE INPUT: true; the input reads as it did. -/
def fnExactCandidateAtSpec : ChangeSpec := { name := "fnExactCandidateAt", fn := fun _ => fun
  | [d1, d2] => { results := [.lit (.bool true)], args := [d1, d2] }
  | _ => none }
def fnExactCandidateAtRow : OpenClaim := { program := "ytienbokkimnecaa", sum := "ed165532b8595a519bf5178fd254e1908444dbaa6f7e4139af472d3267d23149", func := "loop.example/g01215/laws.FnExactCandidateAt", spec := "fnExactCandidateAt", apart := false }
def FnExactCandidateAtSaid : Prop := fnExactCandidateAtRow.holds Try.pinned (OpenSpec.ofChange fnExactCandidateAtSpec)

/-- ITS FALSE NEIGHBOUR: 'it returns false'. Refute it at one input. -/
def fnExactCandidateAtWrong : ChangeSpec := { name := "fnExactCandidateAt", fn := fun _ => fun
  | [d1, d2] => { results := [.lit (.bool false)], args := [d1, d2] }
  | _ => none }
def FnExactCandidateAtWrongFalsely : Prop := fnExactCandidateAtRow.holds Try.pinned (OpenSpec.ofChange fnExactCandidateAtWrong)

/-- 'laws.FnExactFirstCandidate': WHATEVER THE INPUT: true; the input reads as it did. -/
def fnExactFirstCandidateSpec : ChangeSpec := { name := "fnExactFirstCandidate", fn := fun _ => fun
  | [d] => { results := [.lit (.bool true)], args := [d] }
  | _ => none }
def fnExactFirstCandidateRow : OpenClaim := { program := "ytienbokkimnecaa", sum := "ed165532b8595a519bf5178fd254e1908444dbaa6f7e4139af472d3267d23149", func := "loop.example/g01215/laws.FnExactFirstCandidate", spec := "fnExactFirstCandidate", apart := false }
def FnExactFirstCandidateSaid : Prop := fnExactFirstCandidateRow.holds Try.pinned (OpenSpec.ofChange fnExactFirstCandidateSpec)

/-- ITS FALSE NEIGHBOUR: 'it returns false'. Refute it at one input. -/
def fnExactFirstCandidateWrong : ChangeSpec := { name := "fnExactFirstCandidate", fn := fun _ => fun
  | [d] => { results := [.lit (.bool false)], args := [d] }
  | _ => none }
def FnExactFirstCandidateWrongFalsely : Prop := fnExactFirstCandidateRow.holds Try.pinned (OpenSpec.ofChange fnExactFirstCandidateWrong)

/- THE SECOND FORM. 'bulk': how many values and letters a reading holds, each counted each time it is reached (what is shared counts as often as it is met; a slice's spare places count too). A statement '..UptoSaid' is the law's where the arguments, and the package variables that the reading takes, are together of bulk at most 1048576: NARROWER than '..Said'. Prove '..Said' where nothing that the law and all that it calls make is longer than what came in: it says more and counts as full. Else prove '..UptoSaid'. A law counts once. -/
mutual
def uptoBulk {H : Type} : DataW H → Nat
  | .lit (.string bytes) => bytes.length + 1
  | .lit _ => 1
  | .nil => 1
  | .ptr d => uptoBulk d + 1
  | .slice elems spare => uptoBulkAll elems + uptoBulkAll spare + 1
  | .agg parts => uptoBulkAll parts + 1
  | .iface _ d => uptoBulk d + 1
  | .map entries => uptoBulkEntries entries + 1
  | .held _ => 1
def uptoBulkAll {H : Type} : List (DataW H) → Nat
  | [] => 0
  | d :: r => uptoBulk d + uptoBulkAll r
def uptoBulkEntries {H : Type} : List (Lit × DataW H) → Nat
  | [] => 0
  | x :: r => uptoBulkEntry x + uptoBulkEntries r
def uptoBulkEntry {H : Type} : Lit × DataW H → Nat
  | (.string bytes, d) => bytes.length + uptoBulk d + 1
  | (_, d) => uptoBulk d + 1
 end
def uptoSmall : (H : Type) → List (DataW H) → Bool := fun _ ds => decide (uptoBulkAll ds ≤ 1048576)
def OpenSpec.upto (s : _root_.Go.ChangeSpec) : _root_.Go.OpenSpec := { _root_.Go.OpenSpec.ofChange s with cond := some uptoSmall }

/-- 'laws.FnExactViewOf', WHERE WHAT IT READS IS OF BULK AT MOST 1048576: true; the input reads as it did. -/
def fnExactViewOfUptoRow : OpenClaim := { program := "ytienbokkimnecaa", sum := "ed165532b8595a519bf5178fd254e1908444dbaa6f7e4139af472d3267d23149", func := "loop.example/g01215/laws.FnExactViewOf", spec := "fnExactViewOf", unfollowed := true, recurses := true, apart := false, narrowed := true }
def FnExactViewOfUptoSaid : Prop := fnExactViewOfUptoRow.holds Try.pinned (OpenSpec.upto fnExactViewOfSpec)

/-- 'laws.FnExactIsView', WHERE WHAT IT READS IS OF BULK AT MOST 1048576: true; the input reads as it did. -/
def fnExactIsViewUptoRow : OpenClaim := { program := "ytienbokkimnecaa", sum := "ed165532b8595a519bf5178fd254e1908444dbaa6f7e4139af472d3267d23149", func := "loop.example/g01215/laws.FnExactIsView", spec := "fnExactIsView", apart := false, narrowed := true }
def FnExactIsViewUptoSaid : Prop := fnExactIsViewUptoRow.holds Try.pinned (OpenSpec.upto fnExactIsViewSpec)

/-- 'laws.FnExactCountHidden', WHERE WHAT IT READS IS OF BULK AT MOST 1048576: true; the input reads as it did. -/
def fnExactCountHiddenUptoRow : OpenClaim := { program := "ytienbokkimnecaa", sum := "ed165532b8595a519bf5178fd254e1908444dbaa6f7e4139af472d3267d23149", func := "loop.example/g01215/laws.FnExactCountHidden", spec := "fnExactCountHidden", apart := false, narrowed := true }
def FnExactCountHiddenUptoSaid : Prop := fnExactCountHiddenUptoRow.holds Try.pinned (OpenSpec.upto fnExactCountHiddenSpec)

/-- 'laws.FnExactCountCandidates', WHERE WHAT IT READS IS OF BULK AT MOST 1048576: true; the input reads as it did. -/
def fnExactCountCandidatesUptoRow : OpenClaim := { program := "ytienbokkimnecaa", sum := "ed165532b8595a519bf5178fd254e1908444dbaa6f7e4139af472d3267d23149", func := "loop.example/g01215/laws.FnExactCountCandidates", spec := "fnExactCountCandidates", apart := false, narrowed := true }
def FnExactCountCandidatesUptoSaid : Prop := fnExactCountCandidatesUptoRow.holds Try.pinned (OpenSpec.upto fnExactCountCandidatesSpec)

/-- 'laws.FnExactRankOfRack', WHERE WHAT IT READS IS OF BULK AT MOST 1048576: true; the input reads as it did. -/
def fnExactRankOfRackUptoRow : OpenClaim := { program := "ytienbokkimnecaa", sum := "ed165532b8595a519bf5178fd254e1908444dbaa6f7e4139af472d3267d23149", func := "loop.example/g01215/laws.FnExactRankOfRack", spec := "fnExactRankOfRack", unfollowed := true, recurses := true, apart := false, narrowed := true }
def FnExactRankOfRackUptoSaid : Prop := fnExactRankOfRackUptoRow.holds Try.pinned (OpenSpec.upto fnExactRankOfRackSpec)

/-- 'laws.FnExactCandidateAt', WHERE WHAT IT READS IS OF BULK AT MOST 1048576: true; the input reads as it did. -/
def fnExactCandidateAtUptoRow : OpenClaim := { program := "ytienbokkimnecaa", sum := "ed165532b8595a519bf5178fd254e1908444dbaa6f7e4139af472d3267d23149", func := "loop.example/g01215/laws.FnExactCandidateAt", spec := "fnExactCandidateAt", apart := false, narrowed := true }
def FnExactCandidateAtUptoSaid : Prop := fnExactCandidateAtUptoRow.holds Try.pinned (OpenSpec.upto fnExactCandidateAtSpec)

/-- 'laws.FnExactFirstCandidate', WHERE WHAT IT READS IS OF BULK AT MOST 1048576: true; the input reads as it did. -/
def fnExactFirstCandidateUptoRow : OpenClaim := { program := "ytienbokkimnecaa", sum := "ed165532b8595a519bf5178fd254e1908444dbaa6f7e4139af472d3267d23149", func := "loop.example/g01215/laws.FnExactFirstCandidate", spec := "fnExactFirstCandidate", apart := false, narrowed := true }
def FnExactFirstCandidateUptoSaid : Prop := fnExactFirstCandidateUptoRow.holds Try.pinned (OpenSpec.upto fnExactFirstCandidateSpec)

end Rows
end Go.Proofs.Ytienbokkimnecaa
