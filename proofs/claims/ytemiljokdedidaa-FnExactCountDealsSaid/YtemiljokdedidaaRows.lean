/-
  No cell of these rows narrows 'for every input' (looked for: loops, veiled, ifaces, maps, wideKeys, modest, calm, conditions, laid).
  DERIVED. THE GIVEN ROWS OF THIS SEAT. 8 by the template 'for every input the law returns true; each argument reads behind the call as it read before'; 0 by the template 'total and deterministic' (their statements: YtemiljokdedidaaTotals.lean).
  GIVEN WITH THE SEED: the statements are not yours to turn. If you find one false, say at which input.
  Laid BY PROGRAM, IN A SANDBOX (cutbox-rows.mjs): the forced cells as the released guide's own fill.sh prints them over the translation ac1b8ffa2d6736c8… (all of the seat's roots in one cut). By AI agents, Wed Nov 11 2026. No macro, syntax, notation, axiom, sorry.
-/
import Derived.Test.YtemiljokdedidaaChecked
import GoSem.Claim
import GoSem.ClaimJoined
import GoSem.ClaimMapViews
import Derived.JoinedTies
import Derived.KernelRfl
namespace Go.Proofs.Ytemiljokdedidaa
/- THE CELL 'sum', in the pinned program and in every row, IS THE sha256 OF THE DUMP (.gsa) THAT YtemiljokdedidaaProg.lean LOADS. Nothing in Lean hashes anything: it is a label: what it is worth is what the hold of that sum in a sandbox is worth. -/
noncomputable def Try.pinned : Pinned := { name := "ytemiljokdedidaa", sum := "ac1b8ffa2d6736c8b06f7cf05d2857399e2f479f6bdc5435ec96c42d32695fca", checked := Try.checked }
namespace Rows
def none {H : Type} : Left H := { results := [], args := [] }

/-- 'laws.FnExactDealRuns': WHATEVER THE INPUT: true; the input reads as it did. -/
def fnExactDealRunsSpec : ChangeSpec := { name := "fnExactDealRuns", fn := fun _ => fun
  | [d1, d2] => { results := [.lit (.bool true)], args := [d1, d2] }
  | _ => none }
def fnExactDealRunsRow : OpenClaim := { program := "ytemiljokdedidaa", sum := "ac1b8ffa2d6736c8b06f7cf05d2857399e2f479f6bdc5435ec96c42d32695fca", func := "loop.example/g01215/laws.FnExactDealRuns", spec := "fnExactDealRuns", apart := false }
def FnExactDealRunsSaid : Prop := fnExactDealRunsRow.holds Try.pinned (OpenSpec.ofChange fnExactDealRunsSpec)

/-- ITS FALSE NEIGHBOUR: 'it returns false'. Refute it at one input. -/
def fnExactDealRunsWrong : ChangeSpec := { name := "fnExactDealRuns", fn := fun _ => fun
  | [d1, d2] => { results := [.lit (.bool false)], args := [d1, d2] }
  | _ => none }
def FnExactDealRunsWrongFalsely : Prop := fnExactDealRunsRow.holds Try.pinned (OpenSpec.ofChange fnExactDealRunsWrong)

/-- 'laws.FnExactDealSame': WHATEVER THE INPUT: true; the input reads as it did. -/
def fnExactDealSameSpec : ChangeSpec := { name := "fnExactDealSame", fn := fun _ => fun
  | [d1, d2] => { results := [.lit (.bool true)], args := [d1, d2] }
  | _ => none }
def fnExactDealSameRow : OpenClaim := { program := "ytemiljokdedidaa", sum := "ac1b8ffa2d6736c8b06f7cf05d2857399e2f479f6bdc5435ec96c42d32695fca", func := "loop.example/g01215/laws.FnExactDealSame", spec := "fnExactDealSame", recurses := true, apart := false }
def FnExactDealSameSaid : Prop := fnExactDealSameRow.holds Try.pinned (OpenSpec.ofChange fnExactDealSameSpec)

/-- ITS FALSE NEIGHBOUR: 'it returns false'. Refute it at one input. -/
def fnExactDealSameWrong : ChangeSpec := { name := "fnExactDealSame", fn := fun _ => fun
  | [d1, d2] => { results := [.lit (.bool false)], args := [d1, d2] }
  | _ => none }
def FnExactDealSameWrongFalsely : Prop := fnExactDealSameRow.holds Try.pinned (OpenSpec.ofChange fnExactDealSameWrong)

/-- 'laws.FnExactDealTop': WHATEVER THE INPUT: true; the input reads as it did. -/
def fnExactDealTopSpec : ChangeSpec := { name := "fnExactDealTop", fn := fun _ => fun
  | [d1, d2, d3, d4] => { results := [.lit (.bool true)], args := [d1, d2, d3, d4] }
  | _ => none }
def fnExactDealTopRow : OpenClaim := { program := "ytemiljokdedidaa", sum := "ac1b8ffa2d6736c8b06f7cf05d2857399e2f479f6bdc5435ec96c42d32695fca", func := "loop.example/g01215/laws.FnExactDealTop", spec := "fnExactDealTop", apart := false }
def FnExactDealTopSaid : Prop := fnExactDealTopRow.holds Try.pinned (OpenSpec.ofChange fnExactDealTopSpec)

/-- ITS FALSE NEIGHBOUR: 'it returns false'. Refute it at one input. -/
def fnExactDealTopWrong : ChangeSpec := { name := "fnExactDealTop", fn := fun _ => fun
  | [d1, d2, d3, d4] => { results := [.lit (.bool false)], args := [d1, d2, d3, d4] }
  | _ => none }
def FnExactDealTopWrongFalsely : Prop := fnExactDealTopRow.holds Try.pinned (OpenSpec.ofChange fnExactDealTopWrong)

/-- 'laws.FnExactDealAlike': WHATEVER THE INPUT: true; the input reads as it did. -/
def fnExactDealAlikeSpec : ChangeSpec := { name := "fnExactDealAlike", fn := fun _ => fun
  | [d1, d2, d3, d4] => { results := [.lit (.bool true)], args := [d1, d2, d3, d4] }
  | _ => none }
def fnExactDealAlikeRow : OpenClaim := { program := "ytemiljokdedidaa", sum := "ac1b8ffa2d6736c8b06f7cf05d2857399e2f479f6bdc5435ec96c42d32695fca", func := "loop.example/g01215/laws.FnExactDealAlike", spec := "fnExactDealAlike", apart := false }
def FnExactDealAlikeSaid : Prop := fnExactDealAlikeRow.holds Try.pinned (OpenSpec.ofChange fnExactDealAlikeSpec)

/-- ITS FALSE NEIGHBOUR: 'it returns false'. Refute it at one input. -/
def fnExactDealAlikeWrong : ChangeSpec := { name := "fnExactDealAlike", fn := fun _ => fun
  | [d1, d2, d3, d4] => { results := [.lit (.bool false)], args := [d1, d2, d3, d4] }
  | _ => none }
def FnExactDealAlikeWrongFalsely : Prop := fnExactDealAlikeRow.holds Try.pinned (OpenSpec.ofChange fnExactDealAlikeWrong)

/-- 'laws.FnExactCountDeals': WHATEVER THE INPUT: true; the input reads as it did. -/
def fnExactCountDealsSpec : ChangeSpec := { name := "fnExactCountDeals", fn := fun _ => fun
  | [d1, d2] => { results := [.lit (.bool true)], args := [d1, d2] }
  | _ => none }
def fnExactCountDealsRow : OpenClaim := { program := "ytemiljokdedidaa", sum := "ac1b8ffa2d6736c8b06f7cf05d2857399e2f479f6bdc5435ec96c42d32695fca", func := "loop.example/g01215/laws.FnExactCountDeals", spec := "fnExactCountDeals", apart := false }
def FnExactCountDealsSaid : Prop := fnExactCountDealsRow.holds Try.pinned (OpenSpec.ofChange fnExactCountDealsSpec)

/-- ITS FALSE NEIGHBOUR: 'it returns false'. Refute it at one input. -/
def fnExactCountDealsWrong : ChangeSpec := { name := "fnExactCountDeals", fn := fun _ => fun
  | [d1, d2] => { results := [.lit (.bool false)], args := [d1, d2] }
  | _ => none }
def FnExactCountDealsWrongFalsely : Prop := fnExactCountDealsRow.holds Try.pinned (OpenSpec.ofChange fnExactCountDealsWrong)

/-- 'laws.FnExactIsView': WHATEVER THE INPUT: true; the input reads as it did. -/
def fnExactIsViewSpec : ChangeSpec := { name := "fnExactIsView", fn := fun _ => fun
  | [d] => { results := [.lit (.bool true)], args := [d] }
  | _ => none }
def fnExactIsViewRow : OpenClaim := { program := "ytemiljokdedidaa", sum := "ac1b8ffa2d6736c8b06f7cf05d2857399e2f479f6bdc5435ec96c42d32695fca", func := "loop.example/g01215/laws.FnExactIsView", spec := "fnExactIsView", apart := false }
def FnExactIsViewSaid : Prop := fnExactIsViewRow.holds Try.pinned (OpenSpec.ofChange fnExactIsViewSpec)

/-- ITS FALSE NEIGHBOUR: 'it returns false'. Refute it at one input. -/
def fnExactIsViewWrong : ChangeSpec := { name := "fnExactIsView", fn := fun _ => fun
  | [d] => { results := [.lit (.bool false)], args := [d] }
  | _ => none }
def FnExactIsViewWrongFalsely : Prop := fnExactIsViewRow.holds Try.pinned (OpenSpec.ofChange fnExactIsViewWrong)

/-- 'laws.FnExactCountHidden': WHATEVER THE INPUT: true; the input reads as it did. -/
def fnExactCountHiddenSpec : ChangeSpec := { name := "fnExactCountHidden", fn := fun _ => fun
  | [d] => { results := [.lit (.bool true)], args := [d] }
  | _ => none }
def fnExactCountHiddenRow : OpenClaim := { program := "ytemiljokdedidaa", sum := "ac1b8ffa2d6736c8b06f7cf05d2857399e2f479f6bdc5435ec96c42d32695fca", func := "loop.example/g01215/laws.FnExactCountHidden", spec := "fnExactCountHidden", apart := false }
def FnExactCountHiddenSaid : Prop := fnExactCountHiddenRow.holds Try.pinned (OpenSpec.ofChange fnExactCountHiddenSpec)

/-- ITS FALSE NEIGHBOUR: 'it returns false'. Refute it at one input. -/
def fnExactCountHiddenWrong : ChangeSpec := { name := "fnExactCountHidden", fn := fun _ => fun
  | [d] => { results := [.lit (.bool false)], args := [d] }
  | _ => none }
def FnExactCountHiddenWrongFalsely : Prop := fnExactCountHiddenRow.holds Try.pinned (OpenSpec.ofChange fnExactCountHiddenWrong)

/-- 'laws.FnExactCountCandidates': WHATEVER THE INPUT: true; the input reads as it did. -/
def fnExactCountCandidatesSpec : ChangeSpec := { name := "fnExactCountCandidates", fn := fun _ => fun
  | [d] => { results := [.lit (.bool true)], args := [d] }
  | _ => none }
def fnExactCountCandidatesRow : OpenClaim := { program := "ytemiljokdedidaa", sum := "ac1b8ffa2d6736c8b06f7cf05d2857399e2f479f6bdc5435ec96c42d32695fca", func := "loop.example/g01215/laws.FnExactCountCandidates", spec := "fnExactCountCandidates", apart := false }
def FnExactCountCandidatesSaid : Prop := fnExactCountCandidatesRow.holds Try.pinned (OpenSpec.ofChange fnExactCountCandidatesSpec)

/-- ITS FALSE NEIGHBOUR: 'it returns false'. Refute it at one input. -/
def fnExactCountCandidatesWrong : ChangeSpec := { name := "fnExactCountCandidates", fn := fun _ => fun
  | [d] => { results := [.lit (.bool false)], args := [d] }
  | _ => none }
def FnExactCountCandidatesWrongFalsely : Prop := fnExactCountCandidatesRow.holds Try.pinned (OpenSpec.ofChange fnExactCountCandidatesWrong)

/- THE SECOND FORM. 'bulk': how many values and letters a reading holds, each counted each time it is reached (what is shared counts as often as it is met; a slice's spare places count too). A statement '..UptoSaid' is the law's where the arguments, and the package variables that the reading takes, are together of bulk at most 1048576: NARROWER than '..Said'. Prove '..Said' where nothing that the law and all that it calls make is longer than what came in: it says more and counts as full. Else prove '..UptoSaid'. A law counts once. -/
mutual
def uptoBulk {H : Type} : DataW H → Nat
  | .lit (.string bytes) => bytes.length + 1
  | .lit _ => 1
  | .nil => 1
  | .ptr d => uptoBulk d + 1
  | .slice elems spare => uptoBulkAll elems + uptoBulkAll spare + 1
  | .agg parts => uptoBulkAll parts + 1
  | .iface _ d => uptoBulk d + 1
  | .map entries => uptoBulkEntries entries + 1
  | .held _ => 1
def uptoBulkAll {H : Type} : List (DataW H) → Nat
  | [] => 0
  | d :: r => uptoBulk d + uptoBulkAll r
def uptoBulkEntries {H : Type} : List (Lit × DataW H) → Nat
  | [] => 0
  | x :: r => uptoBulkEntry x + uptoBulkEntries r
def uptoBulkEntry {H : Type} : Lit × DataW H → Nat
  | (.string bytes, d) => bytes.length + uptoBulk d + 1
  | (_, d) => uptoBulk d + 1
 end
def uptoSmall : (H : Type) → List (DataW H) → Bool := fun _ ds => decide (uptoBulkAll ds ≤ 1048576)
def OpenSpec.upto (s : _root_.Go.ChangeSpec) : _root_.Go.OpenSpec := { _root_.Go.OpenSpec.ofChange s with cond := some uptoSmall }

/-- 'laws.FnExactDealRuns', WHERE WHAT IT READS IS OF BULK AT MOST 1048576: true; the input reads as it did. -/
def fnExactDealRunsUptoRow : OpenClaim := { program := "ytemiljokdedidaa", sum := "ac1b8ffa2d6736c8b06f7cf05d2857399e2f479f6bdc5435ec96c42d32695fca", func := "loop.example/g01215/laws.FnExactDealRuns", spec := "fnExactDealRuns", apart := false, narrowed := true }
def FnExactDealRunsUptoSaid : Prop := fnExactDealRunsUptoRow.holds Try.pinned (OpenSpec.upto fnExactDealRunsSpec)

/-- 'laws.FnExactDealSame', WHERE WHAT IT READS IS OF BULK AT MOST 1048576: true; the input reads as it did. -/
def fnExactDealSameUptoRow : OpenClaim := { program := "ytemiljokdedidaa", sum := "ac1b8ffa2d6736c8b06f7cf05d2857399e2f479f6bdc5435ec96c42d32695fca", func := "loop.example/g01215/laws.FnExactDealSame", spec := "fnExactDealSame", recurses := true, apart := false, narrowed := true }
def FnExactDealSameUptoSaid : Prop := fnExactDealSameUptoRow.holds Try.pinned (OpenSpec.upto fnExactDealSameSpec)

/-- 'laws.FnExactDealTop', WHERE WHAT IT READS IS OF BULK AT MOST 1048576: true; the input reads as it did. -/
def fnExactDealTopUptoRow : OpenClaim := { program := "ytemiljokdedidaa", sum := "ac1b8ffa2d6736c8b06f7cf05d2857399e2f479f6bdc5435ec96c42d32695fca", func := "loop.example/g01215/laws.FnExactDealTop", spec := "fnExactDealTop", apart := false, narrowed := true }
def FnExactDealTopUptoSaid : Prop := fnExactDealTopUptoRow.holds Try.pinned (OpenSpec.upto fnExactDealTopSpec)

/-- 'laws.FnExactDealAlike', WHERE WHAT IT READS IS OF BULK AT MOST 1048576: true; the input reads as it did. -/
def fnExactDealAlikeUptoRow : OpenClaim := { program := "ytemiljokdedidaa", sum := "ac1b8ffa2d6736c8b06f7cf05d2857399e2f479f6bdc5435ec96c42d32695fca", func := "loop.example/g01215/laws.FnExactDealAlike", spec := "fnExactDealAlike", apart := false, narrowed := true }
def FnExactDealAlikeUptoSaid : Prop := fnExactDealAlikeUptoRow.holds Try.pinned (OpenSpec.upto fnExactDealAlikeSpec)

/-- 'laws.FnExactCountDeals', WHERE WHAT IT READS IS OF BULK AT MOST 1048576: true; the input reads as it did. -/
def fnExactCountDealsUptoRow : OpenClaim := { program := "ytemiljokdedidaa", sum := "ac1b8ffa2d6736c8b06f7cf05d2857399e2f479f6bdc5435ec96c42d32695fca", func := "loop.example/g01215/laws.FnExactCountDeals", spec := "fnExactCountDeals", apart := false, narrowed := true }
def FnExactCountDealsUptoSaid : Prop := fnExactCountDealsUptoRow.holds Try.pinned (OpenSpec.upto fnExactCountDealsSpec)

/-- 'laws.FnExactIsView', WHERE WHAT IT READS IS OF BULK AT MOST 1048576: true; the input reads as it did. -/
def fnExactIsViewUptoRow : OpenClaim := { program := "ytemiljokdedidaa", sum := "ac1b8ffa2d6736c8b06f7cf05d2857399e2f479f6bdc5435ec96c42d32695fca", func := "loop.example/g01215/laws.FnExactIsView", spec := "fnExactIsView", apart := false, narrowed := true }
def FnExactIsViewUptoSaid : Prop := fnExactIsViewUptoRow.holds Try.pinned (OpenSpec.upto fnExactIsViewSpec)

/-- 'laws.FnExactCountHidden', WHERE WHAT IT READS IS OF BULK AT MOST 1048576: true; the input reads as it did. -/
def fnExactCountHiddenUptoRow : OpenClaim := { program := "ytemiljokdedidaa", sum := "ac1b8ffa2d6736c8b06f7cf05d2857399e2f479f6bdc5435ec96c42d32695fca", func := "loop.example/g01215/laws.FnExactCountHidden", spec := "fnExactCountHidden", apart := false, narrowed := true }
def FnExactCountHiddenUptoSaid : Prop := fnExactCountHiddenUptoRow.holds Try.pinned (OpenSpec.upto fnExactCountHiddenSpec)

/-- 'laws.FnExactCountCandidates', WHERE WHAT IT READS IS OF BULK AT MOST 1048576: true; the input reads as it did. -/
def fnExactCountCandidatesUptoRow : OpenClaim := { program := "ytemiljokdedidaa", sum := "ac1b8ffa2d6736c8b06f7cf05d2857399e2f479f6bdc5435ec96c42d32695fca", func := "loop.example/g01215/laws.FnExactCountCandidates", spec := "fnExactCountCandidates", apart := false, narrowed := true }
def FnExactCountCandidatesUptoSaid : Prop := fnExactCountCandidatesUptoRow.holds Try.pinned (OpenSpec.upto fnExactCountCandidatesSpec)

end Rows
end Go.Proofs.Ytemiljokdedidaa
