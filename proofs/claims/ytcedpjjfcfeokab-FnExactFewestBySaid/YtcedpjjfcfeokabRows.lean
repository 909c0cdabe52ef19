/-
  No cell of these rows narrows 'for every input' (looked for: loops, veiled, ifaces, maps, wideKeys, modest, calm, conditions, laid).
  DERIVED. THE GIVEN ROWS OF THIS SEAT. 5 by the template 'for every input the law returns true; each argument reads behind the call as it read before'; 0 by the template 'total and deterministic' (their statements: YtcedpjjfcfeokabTotals.lean).
  GIVEN WITH THE SEED: the statements are not yours to turn. If you find one false, say at which input.
  Laid BY PROGRAM, IN A SANDBOX (cutbox-rows.mjs): the forced cells as the released guide's own fill.sh prints them over the translation 3ebac410c655d6b0… (all of the seat's roots in one cut). By AI agents, Wed Nov 11 2026. No macro, syntax, notation, axiom, sorry.
-/
import Derived.Test.YtcedpjjfcfeokabChecked
import GoSem.Claim
import GoSem.ClaimJoined
import GoSem.ClaimMapViews
import Derived.JoinedTies
import Derived.KernelRfl
namespace Go.Proofs.Ytcedpjjfcfeokab
/- THE CELL 'sum', in the pinned program and in every row, IS THE sha256 OF THE DUMP (.gsa) THAT YtcedpjjfcfeokabProg.lean LOADS. Nothing in Lean hashes anything: it is a label: what it is worth is what the hold of that sum in a sandbox is worth. -/
noncomputable def Try.pinned : Pinned := { name := "ytcedpjjfcfeokab", sum := "3ebac410c655d6b0a2d27f8edc603007d1246ea3121f0cfdcbab4f22f9e13df0", checked := Try.checked }
namespace Rows
def none {H : Type} : Left H := { results := [], args := [] }

/-- 'laws.FnExactCommonPours': WHATEVER THE INPUT: true; the input reads as it did. -/
def fnExactCommonPoursSpec : ChangeSpec := { name := "fnExactCommonPours", fn := fun _ => fun
  | [d1, d2] => { results := [.lit (.bool true)], args := [d1, d2] }
  | _ => none }
def fnExactCommonPoursRow : OpenClaim := { program := "ytcedpjjfcfeokab", sum := "3ebac410c655d6b0a2d27f8edc603007d1246ea3121f0cfdcbab4f22f9e13df0", func := "loop.example/g01215/laws.FnExactCommonPours", spec := "fnExactCommonPours", unfollowed := true, recurses := true, plainKeys := false, apart := false }
def FnExactCommonPoursSaid : Prop := fnExactCommonPoursRow.holds Try.pinned (OpenSpec.ofChange fnExactCommonPoursSpec)

/-- ITS FALSE NEIGHBOUR: 'it returns false'. Refute it at one input. -/
def fnExactCommonPoursWrong : ChangeSpec := { name := "fnExactCommonPours", fn := fun _ => fun
  | [d1, d2] => { results := [.lit (.bool false)], args := [d1, d2] }
  | _ => none }
def FnExactCommonPoursWrongFalsely : Prop := fnExactCommonPoursRow.holds Try.pinned (OpenSpec.ofChange fnExactCommonPoursWrong)

/-- 'laws.FnExactSamePours': WHATEVER THE INPUT: true; the input reads as it did. -/
def fnExactSamePoursSpec : ChangeSpec := { name := "fnExactSamePours", fn := fun _ => fun
  | [d1, d2] => { results := [.lit (.bool true)], args := [d1, d2] }
  | _ => none }
def fnExactSamePoursRow : OpenClaim := { program := "ytcedpjjfcfeokab", sum := "3ebac410c655d6b0a2d27f8edc603007d1246ea3121f0cfdcbab4f22f9e13df0", func := "loop.example/g01215/laws.FnExactSamePours", spec := "fnExactSamePours", unfollowed := true, recurses := true, plainKeys := false, apart := false }
def FnExactSamePoursSaid : Prop := fnExactSamePoursRow.holds Try.pinned (OpenSpec.ofChange fnExactSamePoursSpec)

/-- ITS FALSE NEIGHBOUR: 'it returns false'. Refute it at one input. -/
def fnExactSamePoursWrong : ChangeSpec := { name := "fnExactSamePours", fn := fun _ => fun
  | [d1, d2] => { results := [.lit (.bool false)], args := [d1, d2] }
  | _ => none }
def FnExactSamePoursWrongFalsely : Prop := fnExactSamePoursRow.holds Try.pinned (OpenSpec.ofChange fnExactSamePoursWrong)

/-- 'laws.FnExactFewestBy': WHATEVER THE INPUT: true; the input reads as it did. -/
def fnExactFewestBySpec : ChangeSpec := { name := "fnExactFewestBy", fn := fun _ => fun
  | [d1, d2, d3] => { results := [.lit (.bool true)], args := [d1, d2, d3] }
  | _ => none }
def fnExactFewestByRow : OpenClaim := { program := "ytcedpjjfcfeokab", sum := "3ebac410c655d6b0a2d27f8edc603007d1246ea3121f0cfdcbab4f22f9e13df0", func := "loop.example/g01215/laws.FnExactFewestBy", spec := "fnExactFewestBy", unfollowed := true, recurses := true, plainKeys := false, apart := false }
def FnExactFewestBySaid : Prop := fnExactFewestByRow.holds Try.pinned (OpenSpec.ofChange fnExactFewestBySpec)

/-- ITS FALSE NEIGHBOUR: 'it returns false'. Refute it at one input. -/
def fnExactFewestByWrong : ChangeSpec := { name := "fnExactFewestBy", fn := fun _ => fun
  | [d1, d2, d3] => { results := [.lit (.bool false)], args := [d1, d2, d3] }
  | _ => none }
def FnExactFewestByWrongFalsely : Prop := fnExactFewestByRow.holds Try.pinned (OpenSpec.ofChange fnExactFewestByWrong)

/-- 'laws.FnExactReachBy': WHATEVER THE INPUT: true; the input reads as it did. -/
def fnExactReachBySpec : ChangeSpec := { name := "fnExactReachBy", fn := fun _ => fun
  | [d1, d2, d3, d4] => { results := [.lit (.bool true)], args := [d1, d2, d3, d4] }
  | _ => none }
def fnExactReachByRow : OpenClaim := { program := "ytcedpjjfcfeokab", sum := "3ebac410c655d6b0a2d27f8edc603007d1246ea3121f0cfdcbab4f22f9e13df0", func := "loop.example/g01215/laws.FnExactReachBy", spec := "fnExactReachBy", unfollowed := true, recurses := true, plainKeys := false, apart := false }
def FnExactReachBySaid : Prop := fnExactReachByRow.holds Try.pinned (OpenSpec.ofChange fnExactReachBySpec)

/-- ITS FALSE NEIGHBOUR: 'it returns false'. Refute it at one input. -/
def fnExactReachByWrong : ChangeSpec := { name := "fnExactReachBy", fn := fun _ => fun
  | [d1, d2, d3, d4] => { results := [.lit (.bool false)], args := [d1, d2, d3, d4] }
  | _ => none }
def FnExactReachByWrongFalsely : Prop := fnExactReachByRow.holds Try.pinned (OpenSpec.ofChange fnExactReachByWrong)

/-- 'laws.FnExactCertainPours': WHATEVER THE INPUT: true; the input reads as it did. -/
def fnExactCertainPoursSpec : ChangeSpec := { name := "fnExactCertainPours", fn := fun _ => fun
  | [d] => { results := [.lit (.bool true)], args := [d] }
  | _ => none }
def fnExactCertainPoursRow : OpenClaim := { program := "ytcedpjjfcfeokab", sum := "3ebac410c655d6b0a2d27f8edc603007d1246ea3121f0cfdcbab4f22f9e13df0", func := "loop.example/g01215/laws.FnExactCertainPours", spec := "fnExactCertainPours", unfollowed := true, recurses := true, plainKeys := false, apart := false }
def FnExactCertainPoursSaid : Prop := fnExactCertainPoursRow.holds Try.pinned (OpenSpec.ofChange fnExactCertainPoursSpec)

/-- ITS FALSE NEIGHBOUR: 'it returns false'. Refute it at one input. -/
def fnExactCertainPoursWrong : ChangeSpec := { name := "fnExactCertainPours", fn := fun _ => fun
  | [d] => { results := [.lit (.bool false)], args := [d] }
  | _ => none }
def FnExactCertainPoursWrongFalsely : Prop := fnExactCertainPoursRow.holds Try.pinned (OpenSpec.ofChange fnExactCertainPoursWrong)

/- THE SECOND FORM. 'bulk': how many values and letters a reading holds, each counted each time it is reached (what is shared counts as often as it is met; a slice's spare places count too). A statement '..UptoSaid' is the law's where the arguments, and the package variables that the reading takes, are together of bulk at most 1048576: NARROWER than '..Said'. Prove '..Said' where nothing that the law and all that it calls make is longer than what came in: it says more and counts as full. Else prove '..UptoSaid'. A law counts once. -/
mutual
def uptoBulk {H : Type} : DataW H → Nat
  | .lit (.string bytes) => bytes.length + 1
  | .lit _ => 1
  | .nil => 1
  | .ptr d => uptoBulk d + 1
  | .slice elems spare => uptoBulkAll elems + uptoBulkAll spare + 1
  | .agg parts => uptoBulkAll parts + 1
  | .iface _ d => uptoBulk d + 1
  | .map entries => uptoBulkEntries entries + 1
  | .held _ => 1
def uptoBulkAll {H : Type} : List (DataW H) → Nat
  | [] => 0
  | d :: r => uptoBulk d + uptoBulkAll r
def uptoBulkEntries {H : Type} : List (Lit × DataW H) → Nat
  | [] => 0
  | x :: r => uptoBulkEntry x + uptoBulkEntries r
def uptoBulkEntry {H : Type} : Lit × DataW H → Nat
  | (.string bytes, d) => bytes.length + uptoBulk d + 1
  | (_, d) => uptoBulk d + 1
 end
def uptoSmall : (H : Type) → List (DataW H) → Bool := fun _ ds => decide (uptoBulkAll ds ≤ 1048576)
def OpenSpec.upto (s : _root_.Go.ChangeSpec) : _root_.Go.OpenSpec := { _root_.Go.OpenSpec.ofChange s with cond := some uptoSmall }

/-- 'laws.FnExactCommonPours', WHERE WHAT IT READS IS OF BULK AT MOST 1048576: true; the input reads as it did. -/
def fnExactCommonPoursUptoRow : OpenClaim := { program := "ytcedpjjfcfeokab", sum := "3ebac410c655d6b0a2d27f8edc603007d1246ea3121f0cfdcbab4f22f9e13df0", func := "loop.example/g01215/laws.FnExactCommonPours", spec := "fnExactCommonPours", unfollowed := true, recurses := true, plainKeys := false, apart := false, narrowed := true }
def FnExactCommonPoursUptoSaid : Prop := fnExactCommonPoursUptoRow.holds Try.pinned (OpenSpec.upto fnExactCommonPoursSpec)

/-- 'laws.FnExactSamePours', WHERE WHAT IT READS IS OF BULK AT MOST 1048576: true; the input reads as it did. -/
def fnExactSamePoursUptoRow : OpenClaim := { program := "ytcedpjjfcfeokab", sum := "3ebac410c655d6b0a2d27f8edc603007d1246ea3121f0cfdcbab4f22f9e13df0", func := "loop.example/g01215/laws.FnExactSamePours", spec := "fnExactSamePours", unfollowed := true, recurses := true, plainKeys := false, apart := false, narrowed := true }
def FnExactSamePoursUptoSaid : Prop := fnExactSamePoursUptoRow.holds Try.pinned (OpenSpec.upto fnExactSamePoursSpec)

/-- 'laws.FnExactFewestBy', WHERE WHAT IT READS IS OF BULK AT MOST 1048576: true; the input reads as it did. -/
def fnExactFewestByUptoRow : OpenClaim := { program := "ytcedpjjfcfeokab", sum := "3ebac410c655d6b0a2d27f8edc603007d1246ea3121f0cfdcbab4f22f9e13df0", func := "loop.example/g01215/laws.FnExactFewestBy", spec := "fnExactFewestBy", unfollowed := true, recurses := true, plainKeys := false, apart := false, narrowed := true }
def FnExactFewestByUptoSaid : Prop := fnExactFewestByUptoRow.holds Try.pinned (OpenSpec.upto fnExactFewestBySpec)

/-- 'laws.FnExactReachBy', WHERE WHAT IT READS IS OF BULK AT MOST 1048576: true; the input reads as it did. -/
def fnExactReachByUptoRow : OpenClaim := { program := "ytcedpjjfcfeokab", sum := "3ebac410c655d6b0a2d27f8edc603007d1246ea3121f0cfdcbab4f22f9e13df0", func := "loop.example/g01215/laws.FnExactReachBy", spec := "fnExactReachBy", unfollowed := true, recurses := true, plainKeys := false, apart := false, narrowed := true }
def FnExactReachByUptoSaid : Prop := fnExactReachByUptoRow.holds Try.pinned (OpenSpec.upto fnExactReachBySpec)

/-- 'laws.FnExactCertainPours', WHERE WHAT IT READS IS OF BULK AT MOST 1048576: true; the input reads as it did. -/
def fnExactCertainPoursUptoRow : OpenClaim := { program := "ytcedpjjfcfeokab", sum := "3ebac410c655d6b0a2d27f8edc603007d1246ea3121f0cfdcbab4f22f9e13df0", func := "loop.example/g01215/laws.FnExactCertainPours", spec := "fnExactCertainPours", unfollowed := true, recurses := true, plainKeys := false, apart := false, narrowed := true }
def FnExactCertainPoursUptoSaid : Prop := fnExactCertainPoursUptoRow.holds Try.pinned (OpenSpec.upto fnExactCertainPoursSpec)

end Rows
end Go.Proofs.Ytcedpjjfcfeokab
