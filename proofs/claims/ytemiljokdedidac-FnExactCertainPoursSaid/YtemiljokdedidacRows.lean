/-
  No cell of these rows narrows 'for every input' (looked for: loops, veiled, ifaces, maps, wideKeys, modest, calm, conditions, laid).
  DERIVED. THE GIVEN ROWS OF THIS SEAT. 7 by the template 'for every input the law returns true; each argument reads behind the call as it read before'; 0 by the template 'total and deterministic' (their statements: YtemiljokdedidacTotals.lean).
  GIVEN WITH THE SEED: the statements are not yours to turn. If you find one false, say at which input.
  Laid BY PROGRAM, IN A SANDBOX (cutbox-rows.mjs): the forced cells as the released guide's own fill.sh prints them over the translation e9a995e5a651c5bd… (all of the seat's roots in one cut). By AI agents, Wed Nov 11 2026. No macro, syntax, notation, axiom, sorry.
-/
import Derived.Test.YtemiljokdedidacChecked
import GoSem.Claim
import GoSem.ClaimJoined
import GoSem.ClaimMapViews
import Derived.JoinedTies
import Derived.KernelRfl
namespace Go.Proofs.Ytemiljokdedidac
/- THE CELL 'sum', in the pinned program and in every row, IS THE sha256 OF THE DUMP (.gsa) THAT YtemiljokdedidacProg.lean LOADS. Nothing in Lean hashes anything: it is a label: what it is worth is what the hold of that sum in a sandbox is worth. -/
noncomputable def Try.pinned : Pinned := { name := "ytemiljokdedidac", sum := "e9a995e5a651c5bdd9c8a5483504d625feab4595382583d2b8eba3c322661dc8", checked := Try.checked }
namespace Rows
def none {H : Type} : Left H := { results := [], args := [] }

/-- 'laws.FnExactCertainPours': WHATEVER THE INPUT: true; the input reads as it did. -/
def fnExactCertainPoursSpec : ChangeSpec := { name := "fnExactCertainPours", fn := fun _ => fun
  | [d] => { results := [.lit (.bool true)], args := [d] }
  | _ => none }
def fnExactCertainPoursRow : OpenClaim := { program := "ytemiljokdedidac", sum := "e9a995e5a651c5bdd9c8a5483504d625feab4595382583d2b8eba3c322661dc8", func := "loop.example/g01215/laws.FnExactCertainPours", spec := "fnExactCertainPours", unfollowed := true, recurses := true, plainKeys := false, apart := false }
def FnExactCertainPoursSaid : Prop := fnExactCertainPoursRow.holds Try.pinned (OpenSpec.ofChange fnExactCertainPoursSpec)

/-- ITS FALSE NEIGHBOUR: 'it returns false'. Refute it at one input. -/
def fnExactCertainPoursWrong : ChangeSpec := { name := "fnExactCertainPours", fn := fun _ => fun
  | [d] => { results := [.lit (.bool false)], args := [d] }
  | _ => none }
def FnExactCertainPoursWrongFalsely : Prop := fnExactCertainPoursRow.holds Try.pinned (OpenSpec.ofChange fnExactCertainPoursWrong)

/-- 'laws.FnExactChanceSorted': WHATEVER THE INPUT: true; the input reads as it did. -/
def fnExactChanceSortedSpec : ChangeSpec := { name := "fnExactChanceSorted", fn := fun _ => fun
  | [d] => { results := [.lit (.bool true)], args := [d] }
  | _ => none }
def fnExactChanceSortedRow : OpenClaim := { program := "ytemiljokdedidac", sum := "e9a995e5a651c5bdd9c8a5483504d625feab4595382583d2b8eba3c322661dc8", func := "loop.example/g01215/laws.FnExactChanceSorted", spec := "fnExactChanceSorted", unfollowed := true, recurses := true, plainKeys := false, apart := false }
def FnExactChanceSortedSaid : Prop := fnExactChanceSortedRow.holds Try.pinned (OpenSpec.ofChange fnExactChanceSortedSpec)

/-- ITS FALSE NEIGHBOUR: 'it returns false'. Refute it at one input. -/
def fnExactChanceSortedWrong : ChangeSpec := { name := "fnExactChanceSorted", fn := fun _ => fun
  | [d] => { results := [.lit (.bool false)], args := [d] }
  | _ => none }
def FnExactChanceSortedWrongFalsely : Prop := fnExactChanceSortedRow.holds Try.pinned (OpenSpec.ofChange fnExactChanceSortedWrong)

/-- 'laws.FnExactChanceSortedBy': WHATEVER THE INPUT: true; the input reads as it did. -/
def fnExactChanceSortedBySpec : ChangeSpec := { name := "fnExactChanceSortedBy", fn := fun _ => fun
  | [d1, d2] => { results := [.lit (.bool true)], args := [d1, d2] }
  | _ => none }
def fnExactChanceSortedByRow : OpenClaim := { program := "ytemiljokdedidac", sum := "e9a995e5a651c5bdd9c8a5483504d625feab4595382583d2b8eba3c322661dc8", func := "loop.example/g01215/laws.FnExactChanceSortedBy", spec := "fnExactChanceSortedBy", unfollowed := true, recurses := true, plainKeys := false, apart := false }
def FnExactChanceSortedBySaid : Prop := fnExactChanceSortedByRow.holds Try.pinned (OpenSpec.ofChange fnExactChanceSortedBySpec)

/-- ITS FALSE NEIGHBOUR: 'it returns false'. Refute it at one input. -/
def fnExactChanceSortedByWrong : ChangeSpec := { name := "fnExactChanceSortedBy", fn := fun _ => fun
  | [d1, d2] => { results := [.lit (.bool false)], args := [d1, d2] }
  | _ => none }
def FnExactChanceSortedByWrongFalsely : Prop := fnExactChanceSortedByRow.holds Try.pinned (OpenSpec.ofChange fnExactChanceSortedByWrong)

/-- 'laws.FnExactChanceStuckBy': WHATEVER THE INPUT: true; the input reads as it did. -/
def fnExactChanceStuckBySpec : ChangeSpec := { name := "fnExactChanceStuckBy", fn := fun _ => fun
  | [d1, d2] => { results := [.lit (.bool true)], args := [d1, d2] }
  | _ => none }
def fnExactChanceStuckByRow : OpenClaim := { program := "ytemiljokdedidac", sum := "e9a995e5a651c5bdd9c8a5483504d625feab4595382583d2b8eba3c322661dc8", func := "loop.example/g01215/laws.FnExactChanceStuckBy", spec := "fnExactChanceStuckBy", unfollowed := true, recurses := true, plainKeys := false, apart := false }
def FnExactChanceStuckBySaid : Prop := fnExactChanceStuckByRow.holds Try.pinned (OpenSpec.ofChange fnExactChanceStuckBySpec)

/-- ITS FALSE NEIGHBOUR: 'it returns false'. Refute it at one input. -/
def fnExactChanceStuckByWrong : ChangeSpec := { name := "fnExactChanceStuckBy", fn := fun _ => fun
  | [d1, d2] => { results := [.lit (.bool false)], args := [d1, d2] }
  | _ => none }
def FnExactChanceStuckByWrongFalsely : Prop := fnExactChanceStuckByRow.holds Try.pinned (OpenSpec.ofChange fnExactChanceStuckByWrong)

/-- 'laws.FnExactMeanRunsBehind': WHATEVER THE INPUT: true; the input reads as it did. -/
def fnExactMeanRunsBehindSpec : ChangeSpec := { name := "fnExactMeanRunsBehind", fn := fun _ => fun
  | [d1, d2] => { results := [.lit (.bool true)], args := [d1, d2] }
  | _ => none }
def fnExactMeanRunsBehindRow : OpenClaim := { program := "ytemiljokdedidac", sum := "e9a995e5a651c5bdd9c8a5483504d625feab4595382583d2b8eba3c322661dc8", func := "loop.example/g01215/laws.FnExactMeanRunsBehind", spec := "fnExactMeanRunsBehind", unfollowed := true, recurses := true, plainKeys := false, apart := false }
def FnExactMeanRunsBehindSaid : Prop := fnExactMeanRunsBehindRow.holds Try.pinned (OpenSpec.ofChange fnExactMeanRunsBehindSpec)

/-- ITS FALSE NEIGHBOUR: 'it returns false'. Refute it at one input. -/
def fnExactMeanRunsBehindWrong : ChangeSpec := { name := "fnExactMeanRunsBehind", fn := fun _ => fun
  | [d1, d2] => { results := [.lit (.bool false)], args := [d1, d2] }
  | _ => none }
def FnExactMeanRunsBehindWrongFalsely : Prop := fnExactMeanRunsBehindRow.holds Try.pinned (OpenSpec.ofChange fnExactMeanRunsBehindWrong)

/-- 'laws.FnExactBestChance': WHATEVER THE INPUT: true; the input reads as it did. -/
def fnExactBestChanceSpec : ChangeSpec := { name := "fnExactBestChance", fn := fun _ => fun
  | [d1, d2] => { results := [.lit (.bool true)], args := [d1, d2] }
  | _ => none }
def fnExactBestChanceRow : OpenClaim := { program := "ytemiljokdedidac", sum := "e9a995e5a651c5bdd9c8a5483504d625feab4595382583d2b8eba3c322661dc8", func := "loop.example/g01215/laws.FnExactBestChance", spec := "fnExactBestChance", unfollowed := true, recurses := true, plainKeys := false, apart := false }
def FnExactBestChanceSaid : Prop := fnExactBestChanceRow.holds Try.pinned (OpenSpec.ofChange fnExactBestChanceSpec)

/-- ITS FALSE NEIGHBOUR: 'it returns false'. Refute it at one input. -/
def fnExactBestChanceWrong : ChangeSpec := { name := "fnExactBestChance", fn := fun _ => fun
  | [d1, d2] => { results := [.lit (.bool false)], args := [d1, d2] }
  | _ => none }
def FnExactBestChanceWrongFalsely : Prop := fnExactBestChanceRow.holds Try.pinned (OpenSpec.ofChange fnExactBestChanceWrong)

/-- 'laws.FnExactCountEnds': WHATEVER THE INPUT: true; the input reads as it did. -/
def fnExactCountEndsSpec : ChangeSpec := { name := "fnExactCountEnds", fn := fun _ => fun
  | [d1, d2] => { results := [.lit (.bool true)], args := [d1, d2] }
  | _ => none }
def fnExactCountEndsRow : OpenClaim := { program := "ytemiljokdedidac", sum := "e9a995e5a651c5bdd9c8a5483504d625feab4595382583d2b8eba3c322661dc8", func := "loop.example/g01215/laws.FnExactCountEnds", spec := "fnExactCountEnds", unfollowed := true, recurses := true, plainKeys := false, apart := false }
def FnExactCountEndsSaid : Prop := fnExactCountEndsRow.holds Try.pinned (OpenSpec.ofChange fnExactCountEndsSpec)

/-- ITS FALSE NEIGHBOUR: 'it returns false'. Refute it at one input. -/
def fnExactCountEndsWrong : ChangeSpec := { name := "fnExactCountEnds", fn := fun _ => fun
  | [d1, d2] => { results := [.lit (.bool false)], args := [d1, d2] }
  | _ => none }
def FnExactCountEndsWrongFalsely : Prop := fnExactCountEndsRow.holds Try.pinned (OpenSpec.ofChange fnExactCountEndsWrong)

/- THE SECOND FORM. 'bulk': how many values and letters a reading holds, each counted each time it is reached (what is shared counts as often as it is met; a slice's spare places count too). A statement '..UptoSaid' is the law's where the arguments, and the package variables that the reading takes, are together of bulk at most 1048576: NARROWER than '..Said'. Prove '..Said' where nothing that the law and all that it calls make is longer than what came in: it says more and counts as full. Else prove '..UptoSaid'. A law counts once. -/
mutual
def uptoBulk {H : Type} : DataW H → Nat
  | .lit (.string bytes) => bytes.length + 1
  | .lit _ => 1
  | .nil => 1
  | .ptr d => uptoBulk d + 1
  | .slice elems spare => uptoBulkAll elems + uptoBulkAll spare + 1
  | .agg parts => uptoBulkAll parts + 1
  | .iface _ d => uptoBulk d + 1
  | .map entries => uptoBulkEntries entries + 1
  | .held _ => 1
def uptoBulkAll {H : Type} : List (DataW H) → Nat
  | [] => 0
  | d :: r => uptoBulk d + uptoBulkAll r
def uptoBulkEntries {H : Type} : List (Lit × DataW H) → Nat
  | [] => 0
  | x :: r => uptoBulkEntry x + uptoBulkEntries r
def uptoBulkEntry {H : Type} : Lit × DataW H → Nat
  | (.string bytes, d) => bytes.length + uptoBulk d + 1
  | (_, d) => uptoBulk d + 1
 end
def uptoSmall : (H : Type) → List (DataW H) → Bool := fun _ ds => decide (uptoBulkAll ds ≤ 1048576)
def OpenSpec.upto (s : _root_.Go.ChangeSpec) : _root_.Go.OpenSpec := { _root_.Go.OpenSpec.ofChange s with cond := some uptoSmall }

/-- 'laws.FnExactCertainPours', WHERE WHAT IT READS IS OF BULK AT MOST 1048576: true; the input reads as it did. -/
def fnExactCertainPoursUptoRow : OpenClaim := { program := "ytemiljokdedidac", sum := "e9a995e5a651c5bdd9c8a5483504d625feab4595382583d2b8eba3c322661dc8", func := "loop.example/g01215/laws.FnExactCertainPours", spec := "fnExactCertainPours", unfollowed := true, recurses := true, plainKeys := false, apart := false, narrowed := true }
def FnExactCertainPoursUptoSaid : Prop := fnExactCertainPoursUptoRow.holds Try.pinned (OpenSpec.upto fnExactCertainPoursSpec)

/-- 'laws.FnExactChanceSorted', WHERE WHAT IT READS IS OF BULK AT MOST 1048576: true; the input reads as it did. -/
def fnExactChanceSortedUptoRow : OpenClaim := { program := "ytemiljokdedidac", sum := "e9a995e5a651c5bdd9c8a5483504d625feab4595382583d2b8eba3c322661dc8", func := "loop.example/g01215/laws.FnExactChanceSorted", spec := "fnExactChanceSorted", unfollowed := true, recurses := true, plainKeys := false, apart := false, narrowed := true }
def FnExactChanceSortedUptoSaid : Prop := fnExactChanceSortedUptoRow.holds Try.pinned (OpenSpec.upto fnExactChanceSortedSpec)

/-- 'laws.FnExactChanceSortedBy', WHERE WHAT IT READS IS OF BULK AT MOST 1048576: true; the input reads as it did. -/
def fnExactChanceSortedByUptoRow : OpenClaim := { program := "ytemiljokdedidac", sum := "e9a995e5a651c5bdd9c8a5483504d625feab4595382583d2b8eba3c322661dc8", func := "loop.example/g01215/laws.FnExactChanceSortedBy", spec := "fnExactChanceSortedBy", unfollowed := true, recurses := true, plainKeys := false, apart := false, narrowed := true }
def FnExactChanceSortedByUptoSaid : Prop := fnExactChanceSortedByUptoRow.holds Try.pinned (OpenSpec.upto fnExactChanceSortedBySpec)

/-- 'laws.FnExactChanceStuckBy', WHERE WHAT IT READS IS OF BULK AT MOST 1048576: true; the input reads as it did. -/
def fnExactChanceStuckByUptoRow : OpenClaim := { program := "ytemiljokdedidac", sum := "e9a995e5a651c5bdd9c8a5483504d625feab4595382583d2b8eba3c322661dc8", func := "loop.example/g01215/laws.FnExactChanceStuckBy", spec := "fnExactChanceStuckBy", unfollowed := true, recurses := true, plainKeys := false, apart := false, narrowed := true }
def FnExactChanceStuckByUptoSaid : Prop := fnExactChanceStuckByUptoRow.holds Try.pinned (OpenSpec.upto fnExactChanceStuckBySpec)

/-- 'laws.FnExactMeanRunsBehind', WHERE WHAT IT READS IS OF BULK AT MOST 1048576: true; the input reads as it did. -/
def fnExactMeanRunsBehindUptoRow : OpenClaim := { program := "ytemiljokdedidac", sum := "e9a995e5a651c5bdd9c8a5483504d625feab4595382583d2b8eba3c322661dc8", func := "loop.example/g01215/laws.FnExactMeanRunsBehind", spec := "fnExactMeanRunsBehind", unfollowed := true, recurses := true, plainKeys := false, apart := false, narrowed := true }
def FnExactMeanRunsBehindUptoSaid : Prop := fnExactMeanRunsBehindUptoRow.holds Try.pinned (OpenSpec.upto fnExactMeanRunsBehindSpec)

/-- 'laws.FnExactBestChance', WHERE WHAT IT READS IS OF BULK AT MOST 1048576: true; the input reads as it did. -/
def fnExactBestChanceUptoRow : OpenClaim := { program := "ytemiljokdedidac", sum := "e9a995e5a651c5bdd9c8a5483504d625feab4595382583d2b8eba3c322661dc8", func := "loop.example/g01215/laws.FnExactBestChance", spec := "fnExactBestChance", unfollowed := true, recurses := true, plainKeys := false, apart := false, narrowed := true }
def FnExactBestChanceUptoSaid : Prop := fnExactBestChanceUptoRow.holds Try.pinned (OpenSpec.upto fnExactBestChanceSpec)

/-- 'laws.FnExactCountEnds', WHERE WHAT IT READS IS OF BULK AT MOST 1048576: true; the input reads as it did. -/
def fnExactCountEndsUptoRow : OpenClaim := { program := "ytemiljokdedidac", sum := "e9a995e5a651c5bdd9c8a5483504d625feab4595382583d2b8eba3c322661dc8", func := "loop.example/g01215/laws.FnExactCountEnds", spec := "fnExactCountEnds", unfollowed := true, recurses := true, plainKeys := false, apart := false, narrowed := true }
def FnExactCountEndsUptoSaid : Prop := fnExactCountEndsUptoRow.holds Try.pinned (OpenSpec.upto fnExactCountEndsSpec)

end Rows
end Go.Proofs.Ytemiljokdedidac
