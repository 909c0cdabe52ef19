/-
  No cell of these rows narrows 'for every input' (looked for: loops, veiled, ifaces, maps, wideKeys, modest, calm, conditions, laid).
  DERIVED. THE GIVEN ROWS OF THIS SEAT. 6 by the template 'for every input the law returns true; each argument reads behind the call as it read before'; 0 by the template 'total and deterministic' (their statements: YtalngdccjoafhabTotals.lean).
  GIVEN WITH THE SEED: the statements are not yours to turn. If you find one false, say at which input.
  Laid BY PROGRAM, IN A SANDBOX (cutbox-rows.mjs): the forced cells as the released guide's own fill.sh prints them over the translation 82beb5908a5a9682… (all of the seat's roots in one cut). By AI agents, Wed Nov 11 2026. No macro, syntax, notation, axiom, sorry.
-/
import Derived.Test.YtalngdccjoafhabChecked
import GoSem.Claim
import GoSem.ClaimJoined
import GoSem.ClaimMapViews
import Derived.JoinedTies
import Derived.KernelRfl
namespace Go.Proofs.Ytalngdccjoafhab
/- THE CELL 'sum', in the pinned program and in every row, IS THE sha256 OF THE DUMP (.gsa) THAT YtalngdccjoafhabProg.lean LOADS. Nothing in Lean hashes anything: it is a label: what it is worth is what the hold of that sum in a sandbox is worth. -/
noncomputable def Try.pinned : Pinned := { name := "ytalngdccjoafhab", sum := "82beb5908a5a9682878389e697fcc134c01da96e4d45d13a82defab6c08e374c", checked := Try.checked }
namespace Rows
def none {H : Type} : Left H := { results := [], args := [] }

/-- 'laws.FnExactDropIdle': WHATEVER THE INPUT: true; the input reads as it did. -/
def fnExactDropIdleSpec : ChangeSpec := { name := "fnExactDropIdle", fn := fun _ => fun
  | [d] => { results := [.lit (.bool true)], args := [d] }
  | _ => none }
def fnExactDropIdleRow : OpenClaim := { program := "ytalngdccjoafhab", sum := "82beb5908a5a9682878389e697fcc134c01da96e4d45d13a82defab6c08e374c", func := "loop.example/g01215/laws.FnExactDropIdle", spec := "fnExactDropIdle", unfollowed := true, recurses := true, apart := false }
def FnExactDropIdleSaid : Prop := fnExactDropIdleRow.holds Try.pinned (OpenSpec.ofChange fnExactDropIdleSpec)

/-- ITS FALSE NEIGHBOUR: 'it returns false'. Refute it at one input. -/
def fnExactDropIdleWrong : ChangeSpec := { name := "fnExactDropIdle", fn := fun _ => fun
  | [d] => { results := [.lit (.bool false)], args := [d] }
  | _ => none }
def FnExactDropIdleWrongFalsely : Prop := fnExactDropIdleRow.holds Try.pinned (OpenSpec.ofChange fnExactDropIdleWrong)

/-- 'laws.FnExactMovedLayers': WHATEVER THE INPUT: true; the input reads as it did. -/
def fnExactMovedLayersSpec : ChangeSpec := { name := "fnExactMovedLayers", fn := fun _ => fun
  | [d] => { results := [.lit (.bool true)], args := [d] }
  | _ => none }
def fnExactMovedLayersRow : OpenClaim := { program := "ytalngdccjoafhab", sum := "82beb5908a5a9682878389e697fcc134c01da96e4d45d13a82defab6c08e374c", func := "loop.example/g01215/laws.FnExactMovedLayers", spec := "fnExactMovedLayers", unfollowed := true, recurses := true, apart := false }
def FnExactMovedLayersSaid : Prop := fnExactMovedLayersRow.holds Try.pinned (OpenSpec.ofChange fnExactMovedLayersSpec)

/-- ITS FALSE NEIGHBOUR: 'it returns false'. Refute it at one input. -/
def fnExactMovedLayersWrong : ChangeSpec := { name := "fnExactMovedLayers", fn := fun _ => fun
  | [d] => { results := [.lit (.bool false)], args := [d] }
  | _ => none }
def FnExactMovedLayersWrongFalsely : Prop := fnExactMovedLayersRow.holds Try.pinned (OpenSpec.ofChange fnExactMovedLayersWrong)

/-- 'laws.FnExactCanSwap': WHATEVER THE INPUT: true; the input reads as it did. -/
def fnExactCanSwapSpec : ChangeSpec := { name := "fnExactCanSwap", fn := fun _ => fun
  | [d1, d2] => { results := [.lit (.bool true)], args := [d1, d2] }
  | _ => none }
def fnExactCanSwapRow : OpenClaim := { program := "ytalngdccjoafhab", sum := "82beb5908a5a9682878389e697fcc134c01da96e4d45d13a82defab6c08e374c", func := "loop.example/g01215/laws.FnExactCanSwap", spec := "fnExactCanSwap", unfollowed := true, recurses := true, apart := false }
def FnExactCanSwapSaid : Prop := fnExactCanSwapRow.holds Try.pinned (OpenSpec.ofChange fnExactCanSwapSpec)

/-- ITS FALSE NEIGHBOUR: 'it returns false'. Refute it at one input. -/
def fnExactCanSwapWrong : ChangeSpec := { name := "fnExactCanSwap", fn := fun _ => fun
  | [d1, d2] => { results := [.lit (.bool false)], args := [d1, d2] }
  | _ => none }
def FnExactCanSwapWrongFalsely : Prop := fnExactCanSwapRow.holds Try.pinned (OpenSpec.ofChange fnExactCanSwapWrong)

/-- 'laws.FnExactReplayText': WHATEVER THE INPUT: true; the input reads as it did. -/
def fnExactReplayTextSpec : ChangeSpec := { name := "fnExactReplayText", fn := fun _ => fun
  | [d] => { results := [.lit (.bool true)], args := [d] }
  | _ => none }
def fnExactReplayTextRow : OpenClaim := { program := "ytalngdccjoafhab", sum := "82beb5908a5a9682878389e697fcc134c01da96e4d45d13a82defab6c08e374c", func := "loop.example/g01215/laws.FnExactReplayText", spec := "fnExactReplayText", inPlace := ["internal/abi.NoEscape", "internal/bytealg.MakeNoZero"], unfollowed := true, recurses := true, apart := false }
def FnExactReplayTextSaid : Prop := fnExactReplayTextRow.holds Try.pinned (OpenSpec.ofChange fnExactReplayTextSpec)

/-- ITS FALSE NEIGHBOUR: 'it returns false'. Refute it at one input. -/
def fnExactReplayTextWrong : ChangeSpec := { name := "fnExactReplayText", fn := fun _ => fun
  | [d] => { results := [.lit (.bool false)], args := [d] }
  | _ => none }
def FnExactReplayTextWrongFalsely : Prop := fnExactReplayTextRow.holds Try.pinned (OpenSpec.ofChange fnExactReplayTextWrong)

/-- 'laws.FnExactParseReplay': WHATEVER THE INPUT: true; the input reads as it did. -/
def fnExactParseReplaySpec : ChangeSpec := { name := "fnExactParseReplay", fn := fun _ => fun
  | [d] => { results := [.lit (.bool true)], args := [d] }
  | _ => none }
def fnExactParseReplayRow : OpenClaim := { program := "ytalngdccjoafhab", sum := "82beb5908a5a9682878389e697fcc134c01da96e4d45d13a82defab6c08e374c", func := "loop.example/g01215/laws.FnExactParseReplay", spec := "fnExactParseReplay", inPlace := ["internal/abi.NoEscape", "internal/bytealg.MakeNoZero"], unfollowed := true, recurses := true, apart := false }
def FnExactParseReplaySaid : Prop := fnExactParseReplayRow.holds Try.pinned (OpenSpec.ofChange fnExactParseReplaySpec)

/-- ITS FALSE NEIGHBOUR: 'it returns false'. Refute it at one input. -/
def fnExactParseReplayWrong : ChangeSpec := { name := "fnExactParseReplay", fn := fun _ => fun
  | [d] => { results := [.lit (.bool false)], args := [d] }
  | _ => none }
def FnExactParseReplayWrongFalsely : Prop := fnExactParseReplayRow.holds Try.pinned (OpenSpec.ofChange fnExactParseReplayWrong)

/-- 'laws.FnExactCertifyReplay': WHATEVER THE INPUT: true; the input reads as it did. -/
def fnExactCertifyReplaySpec : ChangeSpec := { name := "fnExactCertifyReplay", fn := fun _ => fun
  | [d] => { results := [.lit (.bool true)], args := [d] }
  | _ => none }
def fnExactCertifyReplayRow : OpenClaim := { program := "ytalngdccjoafhab", sum := "82beb5908a5a9682878389e697fcc134c01da96e4d45d13a82defab6c08e374c", func := "loop.example/g01215/laws.FnExactCertifyReplay", spec := "fnExactCertifyReplay", unfollowed := true, recurses := true, apart := false }
def FnExactCertifyReplaySaid : Prop := fnExactCertifyReplayRow.holds Try.pinned (OpenSpec.ofChange fnExactCertifyReplaySpec)

/-- ITS FALSE NEIGHBOUR: 'it returns false'. Refute it at one input. -/
def fnExactCertifyReplayWrong : ChangeSpec := { name := "fnExactCertifyReplay", fn := fun _ => fun
  | [d] => { results := [.lit (.bool false)], args := [d] }
  | _ => none }
def FnExactCertifyReplayWrongFalsely : Prop := fnExactCertifyReplayRow.holds Try.pinned (OpenSpec.ofChange fnExactCertifyReplayWrong)

/- THE SECOND FORM. 'bulk': how many values and letters a reading holds, each counted each time it is reached (what is shared counts as often as it is met; a slice's spare places count too). A statement '..UptoSaid' is the law's where the arguments, and the package variables that the reading takes, are together of bulk at most 1048576: NARROWER than '..Said'. Prove '..Said' where nothing that the law and all that it calls make is longer than what came in: it says more and counts as full. Else prove '..UptoSaid'. A law counts once. -/
mutual
def uptoBulk {H : Type} : DataW H → Nat
  | .lit (.string bytes) => bytes.length + 1
  | .lit _ => 1
  | .nil => 1
  | .ptr d => uptoBulk d + 1
  | .slice elems spare => uptoBulkAll elems + uptoBulkAll spare + 1
  | .agg parts => uptoBulkAll parts + 1
  | .iface _ d => uptoBulk d + 1
  | .map entries => uptoBulkEntries entries + 1
  | .held _ => 1
def uptoBulkAll {H : Type} : List (DataW H) → Nat
  | [] => 0
  | d :: r => uptoBulk d + uptoBulkAll r
def uptoBulkEntries {H : Type} : List (Lit × DataW H) → Nat
  | [] => 0
  | x :: r => uptoBulkEntry x + uptoBulkEntries r
def uptoBulkEntry {H : Type} : Lit × DataW H → Nat
  | (.string bytes, d) => bytes.length + uptoBulk d + 1
  | (_, d) => uptoBulk d + 1
 end
def uptoSmall : (H : Type) → List (DataW H) → Bool := fun _ ds => decide (uptoBulkAll ds ≤ 1048576)
def OpenSpec.upto (s : _root_.Go.ChangeSpec) : _root_.Go.OpenSpec := { _root_.Go.OpenSpec.ofChange s with cond := some uptoSmall }

/-- 'laws.FnExactDropIdle', WHERE WHAT IT READS IS OF BULK AT MOST 1048576: true; the input reads as it did. -/
def fnExactDropIdleUptoRow : OpenClaim := { program := "ytalngdccjoafhab", sum := "82beb5908a5a9682878389e697fcc134c01da96e4d45d13a82defab6c08e374c", func := "loop.example/g01215/laws.FnExactDropIdle", spec := "fnExactDropIdle", unfollowed := true, recurses := true, apart := false, narrowed := true }
def FnExactDropIdleUptoSaid : Prop := fnExactDropIdleUptoRow.holds Try.pinned (OpenSpec.upto fnExactDropIdleSpec)

/-- 'laws.FnExactMovedLayers', WHERE WHAT IT READS IS OF BULK AT MOST 1048576: true; the input reads as it did. -/
def fnExactMovedLayersUptoRow : OpenClaim := { program := "ytalngdccjoafhab", sum := "82beb5908a5a9682878389e697fcc134c01da96e4d45d13a82defab6c08e374c", func := "loop.example/g01215/laws.FnExactMovedLayers", spec := "fnExactMovedLayers", unfollowed := true, recurses := true, apart := false, narrowed := true }
def FnExactMovedLayersUptoSaid : Prop := fnExactMovedLayersUptoRow.holds Try.pinned (OpenSpec.upto fnExactMovedLayersSpec)

/-- 'laws.FnExactCanSwap', WHERE WHAT IT READS IS OF BULK AT MOST 1048576: true; the input reads as it did. -/
def fnExactCanSwapUptoRow : OpenClaim := { program := "ytalngdccjoafhab", sum := "82beb5908a5a9682878389e697fcc134c01da96e4d45d13a82defab6c08e374c", func := "loop.example/g01215/laws.FnExactCanSwap", spec := "fnExactCanSwap", unfollowed := true, recurses := true, apart := false, narrowed := true }
def FnExactCanSwapUptoSaid : Prop := fnExactCanSwapUptoRow.holds Try.pinned (OpenSpec.upto fnExactCanSwapSpec)

/-- 'laws.FnExactReplayText', WHERE WHAT IT READS IS OF BULK AT MOST 1048576: true; the input reads as it did. -/
def fnExactReplayTextUptoRow : OpenClaim := { program := "ytalngdccjoafhab", sum := "82beb5908a5a9682878389e697fcc134c01da96e4d45d13a82defab6c08e374c", func := "loop.example/g01215/laws.FnExactReplayText", spec := "fnExactReplayText", inPlace := ["internal/abi.NoEscape", "internal/bytealg.MakeNoZero"], unfollowed := true, recurses := true, apart := false, narrowed := true }
def FnExactReplayTextUptoSaid : Prop := fnExactReplayTextUptoRow.holds Try.pinned (OpenSpec.upto fnExactReplayTextSpec)

/-- 'laws.FnExactParseReplay', WHERE WHAT IT READS IS OF BULK AT MOST 1048576: true; the input reads as it did. -/
def fnExactParseReplayUptoRow : OpenClaim := { program := "ytalngdccjoafhab", sum := "82beb5908a5a9682878389e697fcc134c01da96e4d45d13a82defab6c08e374c", func := "loop.example/g01215/laws.FnExactParseReplay", spec := "fnExactParseReplay", inPlace := ["internal/abi.NoEscape", "internal/bytealg.MakeNoZero"], unfollowed := true, recurses := true, apart := false, narrowed := true }
def FnExactParseReplayUptoSaid : Prop := fnExactParseReplayUptoRow.holds Try.pinned (OpenSpec.upto fnExactParseReplaySpec)

/-- 'laws.FnExactCertifyReplay', WHERE WHAT IT READS IS OF BULK AT MOST 1048576: true; the input reads as it did. -/
def fnExactCertifyReplayUptoRow : OpenClaim := { program := "ytalngdccjoafhab", sum := "82beb5908a5a9682878389e697fcc134c01da96e4d45d13a82defab6c08e374c", func := "loop.example/g01215/laws.FnExactCertifyReplay", spec := "fnExactCertifyReplay", unfollowed := true, recurses := true, apart := false, narrowed := true }
def FnExactCertifyReplayUptoSaid : Prop := fnExactCertifyReplayUptoRow.holds Try.pinned (OpenSpec.upto fnExactCertifyReplaySpec)

end Rows
end Go.Proofs.Ytalngdccjoafhab
