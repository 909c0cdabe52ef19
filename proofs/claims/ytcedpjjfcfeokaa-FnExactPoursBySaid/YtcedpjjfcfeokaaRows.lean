/-
  No cell of these rows narrows 'for every input' (looked for: loops, veiled, ifaces, maps, wideKeys, modest, calm, conditions, laid).
  DERIVED. THE GIVEN ROWS OF THIS SEAT. 7 by the template 'for every input the law returns true; each argument reads behind the call as it read before'; 0 by the template 'total and deterministic' (their statements: YtcedpjjfcfeokaaTotals.lean).
  GIVEN WITH THE SEED: the statements are not yours to turn. If you find one false, say at which input.
  Laid BY PROGRAM, IN A SANDBOX (cutbox-rows.mjs): the forced cells as the released guide's own fill.sh prints them over the translation 355703cea1c768f3… (all of the seat's roots in one cut). By AI agents, Wed Nov 11 2026. No macro, syntax, notation, axiom, sorry.
-/
import Derived.Test.YtcedpjjfcfeokaaChecked
import GoSem.Claim
import GoSem.ClaimJoined
import GoSem.ClaimMapViews
import Derived.JoinedTies
import Derived.KernelRfl
namespace Go.Proofs.Ytcedpjjfcfeokaa
/- THE CELL 'sum', in the pinned program and in every row, IS THE sha256 OF THE DUMP (.gsa) THAT YtcedpjjfcfeokaaProg.lean LOADS. Nothing in Lean hashes anything: it is a label: what it is worth is what the hold of that sum in a sandbox is worth. -/
noncomputable def Try.pinned : Pinned := { name := "ytcedpjjfcfeokaa", sum := "355703cea1c768f3439684f24a73cb7944faa21cfc488e5135cdca929939bf9a", checked := Try.checked }
namespace Rows
def none {H : Type} : Left H := { results := [], args := [] }

/-- 'laws.FnExactIsDepths': WHATEVER THE INPUT: true; the input reads as it did. -/
def fnExactIsDepthsSpec : ChangeSpec := { name := "fnExactIsDepths", fn := fun _ => fun
  | [d] => { results := [.lit (.bool true)], args := [d] }
  | _ => none }
def fnExactIsDepthsRow : OpenClaim := { program := "ytcedpjjfcfeokaa", sum := "355703cea1c768f3439684f24a73cb7944faa21cfc488e5135cdca929939bf9a", func := "loop.example/g01215/laws.FnExactIsDepths", spec := "fnExactIsDepths", apart := false }
def FnExactIsDepthsSaid : Prop := fnExactIsDepthsRow.holds Try.pinned (OpenSpec.ofChange fnExactIsDepthsSpec)

/-- ITS FALSE NEIGHBOUR: 'it returns false'. Refute it at one input. -/
def fnExactIsDepthsWrong : ChangeSpec := { name := "fnExactIsDepths", fn := fun _ => fun
  | [d] => { results := [.lit (.bool false)], args := [d] }
  | _ => none }
def FnExactIsDepthsWrongFalsely : Prop := fnExactIsDepthsRow.holds Try.pinned (OpenSpec.ofChange fnExactIsDepthsWrong)

/-- 'laws.FnExactFitsDepths': WHATEVER THE INPUT: true; the input reads as it did. -/
def fnExactFitsDepthsSpec : ChangeSpec := { name := "fnExactFitsDepths", fn := fun _ => fun
  | [d1, d2] => { results := [.lit (.bool true)], args := [d1, d2] }
  | _ => none }
def fnExactFitsDepthsRow : OpenClaim := { program := "ytcedpjjfcfeokaa", sum := "355703cea1c768f3439684f24a73cb7944faa21cfc488e5135cdca929939bf9a", func := "loop.example/g01215/laws.FnExactFitsDepths", spec := "fnExactFitsDepths", unfollowed := true, recurses := true, apart := false }
def FnExactFitsDepthsSaid : Prop := fnExactFitsDepthsRow.holds Try.pinned (OpenSpec.ofChange fnExactFitsDepthsSpec)

/-- ITS FALSE NEIGHBOUR: 'it returns false'. Refute it at one input. -/
def fnExactFitsDepthsWrong : ChangeSpec := { name := "fnExactFitsDepths", fn := fun _ => fun
  | [d1, d2] => { results := [.lit (.bool false)], args := [d1, d2] }
  | _ => none }
def FnExactFitsDepthsWrongFalsely : Prop := fnExactFitsDepthsRow.holds Try.pinned (OpenSpec.ofChange fnExactFitsDepthsWrong)

/-- 'laws.FnExactPourBy': WHATEVER THE INPUT: true; the input reads as it did. -/
def fnExactPourBySpec : ChangeSpec := { name := "fnExactPourBy", fn := fun _ => fun
  | [d1, d2, d3, d4, d5] => { results := [.lit (.bool true)], args := [d1, d2, d3, d4, d5] }
  | _ => none }
def fnExactPourByRow : OpenClaim := { program := "ytcedpjjfcfeokaa", sum := "355703cea1c768f3439684f24a73cb7944faa21cfc488e5135cdca929939bf9a", func := "loop.example/g01215/laws.FnExactPourBy", spec := "fnExactPourBy", unfollowed := true, recurses := true, apart := false }
def FnExactPourBySaid : Prop := fnExactPourByRow.holds Try.pinned (OpenSpec.ofChange fnExactPourBySpec)

/-- ITS FALSE NEIGHBOUR: 'it returns false'. Refute it at one input. -/
def fnExactPourByWrong : ChangeSpec := { name := "fnExactPourBy", fn := fun _ => fun
  | [d1, d2, d3, d4, d5] => { results := [.lit (.bool false)], args := [d1, d2, d3, d4, d5] }
  | _ => none }
def FnExactPourByWrongFalsely : Prop := fnExactPourByRow.holds Try.pinned (OpenSpec.ofChange fnExactPourByWrong)

/-- 'laws.FnExactPoursBy': WHATEVER THE INPUT: true; the input reads as it did. -/
def fnExactPoursBySpec : ChangeSpec := { name := "fnExactPoursBy", fn := fun _ => fun
  | [d1, d2, d3] => { results := [.lit (.bool true)], args := [d1, d2, d3] }
  | _ => none }
def fnExactPoursByRow : OpenClaim := { program := "ytcedpjjfcfeokaa", sum := "355703cea1c768f3439684f24a73cb7944faa21cfc488e5135cdca929939bf9a", func := "loop.example/g01215/laws.FnExactPoursBy", spec := "fnExactPoursBy", unfollowed := true, recurses := true, apart := false }
def FnExactPoursBySaid : Prop := fnExactPoursByRow.holds Try.pinned (OpenSpec.ofChange fnExactPoursBySpec)

/-- ITS FALSE NEIGHBOUR: 'it returns false'. Refute it at one input. -/
def fnExactPoursByWrong : ChangeSpec := { name := "fnExactPoursBy", fn := fun _ => fun
  | [d1, d2, d3] => { results := [.lit (.bool false)], args := [d1, d2, d3] }
  | _ => none }
def FnExactPoursByWrongFalsely : Prop := fnExactPoursByRow.holds Try.pinned (OpenSpec.ofChange fnExactPoursByWrong)

/-- 'laws.FnExactDropsFor': WHATEVER THE INPUT: true; the input reads as it did. -/
def fnExactDropsForSpec : ChangeSpec := { name := "fnExactDropsFor", fn := fun _ => fun
  | [d1, d2, d3, d4] => { results := [.lit (.bool true)], args := [d1, d2, d3, d4] }
  | _ => none }
def fnExactDropsForRow : OpenClaim := { program := "ytcedpjjfcfeokaa", sum := "355703cea1c768f3439684f24a73cb7944faa21cfc488e5135cdca929939bf9a", func := "loop.example/g01215/laws.FnExactDropsFor", spec := "fnExactDropsFor", unfollowed := true, recurses := true, apart := false }
def FnExactDropsForSaid : Prop := fnExactDropsForRow.holds Try.pinned (OpenSpec.ofChange fnExactDropsForSpec)

/-- ITS FALSE NEIGHBOUR: 'it returns false'. Refute it at one input. -/
def fnExactDropsForWrong : ChangeSpec := { name := "fnExactDropsFor", fn := fun _ => fun
  | [d1, d2, d3, d4] => { results := [.lit (.bool false)], args := [d1, d2, d3, d4] }
  | _ => none }
def FnExactDropsForWrongFalsely : Prop := fnExactDropsForRow.holds Try.pinned (OpenSpec.ofChange fnExactDropsForWrong)

/-- 'laws.FnExactTurnBack': WHATEVER THE INPUT: true; the input reads as it did. -/
def fnExactTurnBackSpec : ChangeSpec := { name := "fnExactTurnBack", fn := fun _ => fun
  | [d1, d2, d3, d4] => { results := [.lit (.bool true)], args := [d1, d2, d3, d4] }
  | _ => none }
def fnExactTurnBackRow : OpenClaim := { program := "ytcedpjjfcfeokaa", sum := "355703cea1c768f3439684f24a73cb7944faa21cfc488e5135cdca929939bf9a", func := "loop.example/g01215/laws.FnExactTurnBack", spec := "fnExactTurnBack", unfollowed := true, recurses := true, apart := false }
def FnExactTurnBackSaid : Prop := fnExactTurnBackRow.holds Try.pinned (OpenSpec.ofChange fnExactTurnBackSpec)

/-- ITS FALSE NEIGHBOUR: 'it returns false'. Refute it at one input. -/
def fnExactTurnBackWrong : ChangeSpec := { name := "fnExactTurnBack", fn := fun _ => fun
  | [d1, d2, d3, d4] => { results := [.lit (.bool false)], args := [d1, d2, d3, d4] }
  | _ => none }
def FnExactTurnBackWrongFalsely : Prop := fnExactTurnBackRow.holds Try.pinned (OpenSpec.ofChange fnExactTurnBackWrong)

/-- 'laws.FnExactCountRules': WHATEVER THE INPUT: true; the input reads as it did. -/
def fnExactCountRulesSpec : ChangeSpec := { name := "fnExactCountRules", fn := fun _ => fun
  | [d1, d2] => { results := [.lit (.bool true)], args := [d1, d2] }
  | _ => none }
def fnExactCountRulesRow : OpenClaim := { program := "ytcedpjjfcfeokaa", sum := "355703cea1c768f3439684f24a73cb7944faa21cfc488e5135cdca929939bf9a", func := "loop.example/g01215/laws.FnExactCountRules", spec := "fnExactCountRules", unfollowed := true, recurses := true, apart := false }
def FnExactCountRulesSaid : Prop := fnExactCountRulesRow.holds Try.pinned (OpenSpec.ofChange fnExactCountRulesSpec)

/-- ITS FALSE NEIGHBOUR: 'it returns false'. Refute it at one input. -/
def fnExactCountRulesWrong : ChangeSpec := { name := "fnExactCountRules", fn := fun _ => fun
  | [d1, d2] => { results := [.lit (.bool false)], args := [d1, d2] }
  | _ => none }
def FnExactCountRulesWrongFalsely : Prop := fnExactCountRulesRow.holds Try.pinned (OpenSpec.ofChange fnExactCountRulesWrong)

/- THE SECOND FORM. 'bulk': how many values and letters a reading holds, each counted each time it is reached (what is shared counts as often as it is met; a slice's spare places count too). A statement '..UptoSaid' is the law's where the arguments, and the package variables that the reading takes, are together of bulk at most 1048576: NARROWER than '..Said'. Prove '..Said' where nothing that the law and all that it calls make is longer than what came in: it says more and counts as full. Else prove '..UptoSaid'. A law counts once. -/
mutual
def uptoBulk {H : Type} : DataW H → Nat
  | .lit (.string bytes) => bytes.length + 1
  | .lit _ => 1
  | .nil => 1
  | .ptr d => uptoBulk d + 1
  | .slice elems spare => uptoBulkAll elems + uptoBulkAll spare + 1
  | .agg parts => uptoBulkAll parts + 1
  | .iface _ d => uptoBulk d + 1
  | .map entries => uptoBulkEntries entries + 1
  | .held _ => 1
def uptoBulkAll {H : Type} : List (DataW H) → Nat
  | [] => 0
  | d :: r => uptoBulk d + uptoBulkAll r
def uptoBulkEntries {H : Type} : List (Lit × DataW H) → Nat
  | [] => 0
  | x :: r => uptoBulkEntry x + uptoBulkEntries r
def uptoBulkEntry {H : Type} : Lit × DataW H → Nat
  | (.string bytes, d) => bytes.length + uptoBulk d + 1
  | (_, d) => uptoBulk d + 1
 end
def uptoSmall : (H : Type) → List (DataW H) → Bool := fun _ ds => decide (uptoBulkAll ds ≤ 1048576)
def OpenSpec.upto (s : _root_.Go.ChangeSpec) : _root_.Go.OpenSpec := { _root_.Go.OpenSpec.ofChange s with cond := some uptoSmall }

/-- 'laws.FnExactIsDepths', WHERE WHAT IT READS IS OF BULK AT MOST 1048576: true; the input reads as it did. -/
def fnExactIsDepthsUptoRow : OpenClaim := { program := "ytcedpjjfcfeokaa", sum := "355703cea1c768f3439684f24a73cb7944faa21cfc488e5135cdca929939bf9a", func := "loop.example/g01215/laws.FnExactIsDepths", spec := "fnExactIsDepths", apart := false, narrowed := true }
def FnExactIsDepthsUptoSaid : Prop := fnExactIsDepthsUptoRow.holds Try.pinned (OpenSpec.upto fnExactIsDepthsSpec)

/-- 'laws.FnExactFitsDepths', WHERE WHAT IT READS IS OF BULK AT MOST 1048576: true; the input reads as it did. -/
def fnExactFitsDepthsUptoRow : OpenClaim := { program := "ytcedpjjfcfeokaa", sum := "355703cea1c768f3439684f24a73cb7944faa21cfc488e5135cdca929939bf9a", func := "loop.example/g01215/laws.FnExactFitsDepths", spec := "fnExactFitsDepths", unfollowed := true, recurses := true, apart := false, narrowed := true }
def FnExactFitsDepthsUptoSaid : Prop := fnExactFitsDepthsUptoRow.holds Try.pinned (OpenSpec.upto fnExactFitsDepthsSpec)

/-- 'laws.FnExactPourBy', WHERE WHAT IT READS IS OF BULK AT MOST 1048576: true; the input reads as it did. -/
def fnExactPourByUptoRow : OpenClaim := { program := "ytcedpjjfcfeokaa", sum := "355703cea1c768f3439684f24a73cb7944faa21cfc488e5135cdca929939bf9a", func := "loop.example/g01215/laws.FnExactPourBy", spec := "fnExactPourBy", unfollowed := true, recurses := true, apart := false, narrowed := true }
def FnExactPourByUptoSaid : Prop := fnExactPourByUptoRow.holds Try.pinned (OpenSpec.upto fnExactPourBySpec)

/-- 'laws.FnExactPoursBy', WHERE WHAT IT READS IS OF BULK AT MOST 1048576: true; the input reads as it did. -/
def fnExactPoursByUptoRow : OpenClaim := { program := "ytcedpjjfcfeokaa", sum := "355703cea1c768f3439684f24a73cb7944faa21cfc488e5135cdca929939bf9a", func := "loop.example/g01215/laws.FnExactPoursBy", spec := "fnExactPoursBy", unfollowed := true, recurses := true, apart := false, narrowed := true }
def FnExactPoursByUptoSaid : Prop := fnExactPoursByUptoRow.holds Try.pinned (OpenSpec.upto fnExactPoursBySpec)

/-- 'laws.FnExactDropsFor', WHERE WHAT IT READS IS OF BULK AT MOST 1048576: true; the input reads as it did. -/
def fnExactDropsForUptoRow : OpenClaim := { program := "ytcedpjjfcfeokaa", sum := "355703cea1c768f3439684f24a73cb7944faa21cfc488e5135cdca929939bf9a", func := "loop.example/g01215/laws.FnExactDropsFor", spec := "fnExactDropsFor", unfollowed := true, recurses := true, apart := false, narrowed := true }
def FnExactDropsForUptoSaid : Prop := fnExactDropsForUptoRow.holds Try.pinned (OpenSpec.upto fnExactDropsForSpec)

/-- 'laws.FnExactTurnBack', WHERE WHAT IT READS IS OF BULK AT MOST 1048576: true; the input reads as it did. -/
def fnExactTurnBackUptoRow : OpenClaim := { program := "ytcedpjjfcfeokaa", sum := "355703cea1c768f3439684f24a73cb7944faa21cfc488e5135cdca929939bf9a", func := "loop.example/g01215/laws.FnExactTurnBack", spec := "fnExactTurnBack", unfollowed := true, recurses := true, apart := false, narrowed := true }
def FnExactTurnBackUptoSaid : Prop := fnExactTurnBackUptoRow.holds Try.pinned (OpenSpec.upto fnExactTurnBackSpec)

/-- 'laws.FnExactCountRules', WHERE WHAT IT READS IS OF BULK AT MOST 1048576: true; the input reads as it did. -/
def fnExactCountRulesUptoRow : OpenClaim := { program := "ytcedpjjfcfeokaa", sum := "355703cea1c768f3439684f24a73cb7944faa21cfc488e5135cdca929939bf9a", func := "loop.example/g01215/laws.FnExactCountRules", spec := "fnExactCountRules", unfollowed := true, recurses := true, apart := false, narrowed := true }
def FnExactCountRulesUptoSaid : Prop := fnExactCountRulesUptoRow.holds Try.pinned (OpenSpec.upto fnExactCountRulesSpec)

end Rows
end Go.Proofs.Ytcedpjjfcfeokaa
