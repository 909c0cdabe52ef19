/-
  No cell of these rows narrows 'for every input' (looked for: loops, veiled, ifaces, maps, wideKeys, modest, calm, conditions, laid).
  DERIVED. THE GIVEN ROWS OF THIS SEAT. 6 by the template 'for every input the law returns true; each argument reads behind the call as it read before'; 0 by the template 'total and deterministic' (their statements: YtdmcdghcmjmidabTotals.lean).
  GIVEN WITH THE SEED: the statements are not yours to turn. If you find one false, say at which input.
  Laid BY PROGRAM, IN A SANDBOX (cutbox-rows.mjs): the forced cells as the released guide's own fill.sh prints them over the translation 5cdb7f4af1555be0… (all of the seat's roots in one cut). By AI agents, Wed Nov 11 2026. No macro, syntax, notation, axiom, sorry.
-/
import Derived.Test.YtdmcdghcmjmidabChecked
import GoSem.Claim
import GoSem.ClaimJoined
import GoSem.ClaimMapViews
import Derived.JoinedTies
import Derived.KernelRfl
namespace Go.Proofs.Ytdmcdghcmjmidab
/- THE CELL 'sum', in the pinned program and in every row, IS THE sha256 OF THE DUMP (.gsa) THAT YtdmcdghcmjmidabProg.lean LOADS. Nothing in Lean hashes anything: it is a label: what it is worth is what the hold of that sum in a sandbox is worth. -/
noncomputable def Try.pinned : Pinned := { name := "ytdmcdghcmjmidab", sum := "5cdb7f4af1555be0729407252f874a976a8f69c6bdfb948845be4aaaa8b45f83", checked := Try.checked }
namespace Rows
def none {H : Type} : Left H := { results := [], args := [] }

/-- 'laws.FnExactPoursOf': WHATEVER THE INPUT: true; the input reads as it did. -/
def fnExactPoursOfSpec : ChangeSpec := { name := "fnExactPoursOf", fn := fun _ => fun
  | [d] => { results := [.lit (.bool true)], args := [d] }
  | _ => none }
def fnExactPoursOfRow : OpenClaim := { program := "ytdmcdghcmjmidab", sum := "5cdb7f4af1555be0729407252f874a976a8f69c6bdfb948845be4aaaa8b45f83", func := "loop.example/g01215/laws.FnExactPoursOf", spec := "fnExactPoursOf", unfollowed := true, recurses := true, apart := false }
def FnExactPoursOfSaid : Prop := fnExactPoursOfRow.holds Try.pinned (OpenSpec.ofChange fnExactPoursOfSpec)

/-- ITS FALSE NEIGHBOUR: 'it returns false'. Refute it at one input. -/
def fnExactPoursOfWrong : ChangeSpec := { name := "fnExactPoursOf", fn := fun _ => fun
  | [d] => { results := [.lit (.bool false)], args := [d] }
  | _ => none }
def FnExactPoursOfWrongFalsely : Prop := fnExactPoursOfRow.holds Try.pinned (OpenSpec.ofChange fnExactPoursOfWrong)

/-- 'laws.FnExactUsefulPours': WHATEVER THE INPUT: true; the input reads as it did. -/
def fnExactUsefulPoursSpec : ChangeSpec := { name := "fnExactUsefulPours", fn := fun _ => fun
  | [d] => { results := [.lit (.bool true)], args := [d] }
  | _ => none }
def fnExactUsefulPoursRow : OpenClaim := { program := "ytdmcdghcmjmidab", sum := "5cdb7f4af1555be0729407252f874a976a8f69c6bdfb948845be4aaaa8b45f83", func := "loop.example/g01215/laws.FnExactUsefulPours", spec := "fnExactUsefulPours", unfollowed := true, recurses := true, apart := false }
def FnExactUsefulPoursSaid : Prop := fnExactUsefulPoursRow.holds Try.pinned (OpenSpec.ofChange fnExactUsefulPoursSpec)

/-- ITS FALSE NEIGHBOUR: 'it returns false'. Refute it at one input. -/
def fnExactUsefulPoursWrong : ChangeSpec := { name := "fnExactUsefulPours", fn := fun _ => fun
  | [d] => { results := [.lit (.bool false)], args := [d] }
  | _ => none }
def FnExactUsefulPoursWrongFalsely : Prop := fnExactUsefulPoursRow.holds Try.pinned (OpenSpec.ofChange fnExactUsefulPoursWrong)

/-- 'laws.FnExactIsSorted': WHATEVER THE INPUT: true; the input reads as it did. -/
def fnExactIsSortedSpec : ChangeSpec := { name := "fnExactIsSorted", fn := fun _ => fun
  | [d] => { results := [.lit (.bool true)], args := [d] }
  | _ => none }
def fnExactIsSortedRow : OpenClaim := { program := "ytdmcdghcmjmidab", sum := "5cdb7f4af1555be0729407252f874a976a8f69c6bdfb948845be4aaaa8b45f83", func := "loop.example/g01215/laws.FnExactIsSorted", spec := "fnExactIsSorted", unfollowed := true, recurses := true, apart := false }
def FnExactIsSortedSaid : Prop := fnExactIsSortedRow.holds Try.pinned (OpenSpec.ofChange fnExactIsSortedSpec)

/-- ITS FALSE NEIGHBOUR: 'it returns false'. Refute it at one input. -/
def fnExactIsSortedWrong : ChangeSpec := { name := "fnExactIsSorted", fn := fun _ => fun
  | [d] => { results := [.lit (.bool false)], args := [d] }
  | _ => none }
def FnExactIsSortedWrongFalsely : Prop := fnExactIsSortedRow.holds Try.pinned (OpenSpec.ofChange fnExactIsSortedWrong)

/-- 'laws.FnExactCountColors': WHATEVER THE INPUT: true; the input reads as it did. -/
def fnExactCountColorsSpec : ChangeSpec := { name := "fnExactCountColors", fn := fun _ => fun
  | [d] => { results := [.lit (.bool true)], args := [d] }
  | _ => none }
def fnExactCountColorsRow : OpenClaim := { program := "ytdmcdghcmjmidab", sum := "5cdb7f4af1555be0729407252f874a976a8f69c6bdfb948845be4aaaa8b45f83", func := "loop.example/g01215/laws.FnExactCountColors", spec := "fnExactCountColors", unfollowed := true, recurses := true, apart := false }
def FnExactCountColorsSaid : Prop := fnExactCountColorsRow.holds Try.pinned (OpenSpec.ofChange fnExactCountColorsSpec)

/-- ITS FALSE NEIGHBOUR: 'it returns false'. Refute it at one input. -/
def fnExactCountColorsWrong : ChangeSpec := { name := "fnExactCountColors", fn := fun _ => fun
  | [d] => { results := [.lit (.bool false)], args := [d] }
  | _ => none }
def FnExactCountColorsWrongFalsely : Prop := fnExactCountColorsRow.holds Try.pinned (OpenSpec.ofChange fnExactCountColorsWrong)

/-- 'laws.FnExactPutLayer': WHATEVER THE INPUT: true; the input reads as it did. -/
def fnExactPutLayerSpec : ChangeSpec := { name := "fnExactPutLayer", fn := fun _ => fun
  | [d1, d2, d3] => { results := [.lit (.bool true)], args := [d1, d2, d3] }
  | _ => none }
def fnExactPutLayerRow : OpenClaim := { program := "ytdmcdghcmjmidab", sum := "5cdb7f4af1555be0729407252f874a976a8f69c6bdfb948845be4aaaa8b45f83", func := "loop.example/g01215/laws.FnExactPutLayer", spec := "fnExactPutLayer", unfollowed := true, recurses := true, apart := false }
def FnExactPutLayerSaid : Prop := fnExactPutLayerRow.holds Try.pinned (OpenSpec.ofChange fnExactPutLayerSpec)

/-- ITS FALSE NEIGHBOUR: 'it returns false'. Refute it at one input. -/
def fnExactPutLayerWrong : ChangeSpec := { name := "fnExactPutLayer", fn := fun _ => fun
  | [d1, d2, d3] => { results := [.lit (.bool false)], args := [d1, d2, d3] }
  | _ => none }
def FnExactPutLayerWrongFalsely : Prop := fnExactPutLayerRow.holds Try.pinned (OpenSpec.ofChange fnExactPutLayerWrong)

/-- 'laws.FnExactTakeLayer': WHATEVER THE INPUT: true; the input reads as it did. -/
def fnExactTakeLayerSpec : ChangeSpec := { name := "fnExactTakeLayer", fn := fun _ => fun
  | [d1, d2] => { results := [.lit (.bool true)], args := [d1, d2] }
  | _ => none }
def fnExactTakeLayerRow : OpenClaim := { program := "ytdmcdghcmjmidab", sum := "5cdb7f4af1555be0729407252f874a976a8f69c6bdfb948845be4aaaa8b45f83", func := "loop.example/g01215/laws.FnExactTakeLayer", spec := "fnExactTakeLayer", unfollowed := true, recurses := true, apart := false }
def FnExactTakeLayerSaid : Prop := fnExactTakeLayerRow.holds Try.pinned (OpenSpec.ofChange fnExactTakeLayerSpec)

/-- ITS FALSE NEIGHBOUR: 'it returns false'. Refute it at one input. -/
def fnExactTakeLayerWrong : ChangeSpec := { name := "fnExactTakeLayer", fn := fun _ => fun
  | [d1, d2] => { results := [.lit (.bool false)], args := [d1, d2] }
  | _ => none }
def FnExactTakeLayerWrongFalsely : Prop := fnExactTakeLayerRow.holds Try.pinned (OpenSpec.ofChange fnExactTakeLayerWrong)

/- THE SECOND FORM. 'bulk': how many values and letters a reading holds, each counted each time it is reached (what is shared counts as often as it is met; a slice's spare places count too). A statement '..UptoSaid' is the law's where the arguments, and the package variables that the reading takes, are together of bulk at most 1048576: NARROWER than '..Said'. Prove '..Said' where nothing that the law and all that it calls make is longer than what came in: it says more and counts as full. Else prove '..UptoSaid'. A law counts once. -/
mutual
def uptoBulk {H : Type} : DataW H → Nat
  | .lit (.string bytes) => bytes.length + 1
  | .lit _ => 1
  | .nil => 1
  | .ptr d => uptoBulk d + 1
  | .slice elems spare => uptoBulkAll elems + uptoBulkAll spare + 1
  | .agg parts => uptoBulkAll parts + 1
  | .iface _ d => uptoBulk d + 1
  | .map entries => uptoBulkEntries entries + 1
  | .held _ => 1
def uptoBulkAll {H : Type} : List (DataW H) → Nat
  | [] => 0
  | d :: r => uptoBulk d + uptoBulkAll r
def uptoBulkEntries {H : Type} : List (Lit × DataW H) → Nat
  | [] => 0
  | x :: r => uptoBulkEntry x + uptoBulkEntries r
def uptoBulkEntry {H : Type} : Lit × DataW H → Nat
  | (.string bytes, d) => bytes.length + uptoBulk d + 1
  | (_, d) => uptoBulk d + 1
 end
def uptoSmall : (H : Type) → List (DataW H) → Bool := fun _ ds => decide (uptoBulkAll ds ≤ 1048576)
def OpenSpec.upto (s : _root_.Go.ChangeSpec) : _root_.Go.OpenSpec := { _root_.Go.OpenSpec.ofChange s with cond := some uptoSmall }

/-- 'laws.FnExactPoursOf', WHERE WHAT IT READS IS OF BULK AT MOST 1048576: true; the input reads as it did. -/
def fnExactPoursOfUptoRow : OpenClaim := { program := "ytdmcdghcmjmidab", sum := "5cdb7f4af1555be0729407252f874a976a8f69c6bdfb948845be4aaaa8b45f83", func := "loop.example/g01215/laws.FnExactPoursOf", spec := "fnExactPoursOf", unfollowed := true, recurses := true, apart := false, narrowed := true }
def FnExactPoursOfUptoSaid : Prop := fnExactPoursOfUptoRow.holds Try.pinned (OpenSpec.upto fnExactPoursOfSpec)

/-- 'laws.FnExactUsefulPours', WHERE WHAT IT READS IS OF BULK AT MOST 1048576: true; the input reads as it did. -/
def fnExactUsefulPoursUptoRow : OpenClaim := { program := "ytdmcdghcmjmidab", sum := "5cdb7f4af1555be0729407252f874a976a8f69c6bdfb948845be4aaaa8b45f83", func := "loop.example/g01215/laws.FnExactUsefulPours", spec := "fnExactUsefulPours", unfollowed := true, recurses := true, apart := false, narrowed := true }
def FnExactUsefulPoursUptoSaid : Prop := fnExactUsefulPoursUptoRow.holds Try.pinned (OpenSpec.upto fnExactUsefulPoursSpec)

/-- 'laws.FnExactIsSorted', WHERE WHAT IT READS IS OF BULK AT MOST 1048576: true; the input reads as it did. -/
def fnExactIsSortedUptoRow : OpenClaim := { program := "ytdmcdghcmjmidab", sum := "5cdb7f4af1555be0729407252f874a976a8f69c6bdfb948845be4aaaa8b45f83", func := "loop.example/g01215/laws.FnExactIsSorted", spec := "fnExactIsSorted", unfollowed := true, recurses := true, apart := false, narrowed := true }
def FnExactIsSortedUptoSaid : Prop := fnExactIsSortedUptoRow.holds Try.pinned (OpenSpec.upto fnExactIsSortedSpec)

/-- 'laws.FnExactCountColors', WHERE WHAT IT READS IS OF BULK AT MOST 1048576: true; the input reads as it did. -/
def fnExactCountColorsUptoRow : OpenClaim := { program := "ytdmcdghcmjmidab", sum := "5cdb7f4af1555be0729407252f874a976a8f69c6bdfb948845be4aaaa8b45f83", func := "loop.example/g01215/laws.FnExactCountColors", spec := "fnExactCountColors", unfollowed := true, recurses := true, apart := false, narrowed := true }
def FnExactCountColorsUptoSaid : Prop := fnExactCountColorsUptoRow.holds Try.pinned (OpenSpec.upto fnExactCountColorsSpec)

/-- 'laws.FnExactPutLayer', WHERE WHAT IT READS IS OF BULK AT MOST 1048576: true; the input reads as it did. -/
def fnExactPutLayerUptoRow : OpenClaim := { program := "ytdmcdghcmjmidab", sum := "5cdb7f4af1555be0729407252f874a976a8f69c6bdfb948845be4aaaa8b45f83", func := "loop.example/g01215/laws.FnExactPutLayer", spec := "fnExactPutLayer", unfollowed := true, recurses := true, apart := false, narrowed := true }
def FnExactPutLayerUptoSaid : Prop := fnExactPutLayerUptoRow.holds Try.pinned (OpenSpec.upto fnExactPutLayerSpec)

/-- 'laws.FnExactTakeLayer', WHERE WHAT IT READS IS OF BULK AT MOST 1048576: true; the input reads as it did. -/
def fnExactTakeLayerUptoRow : OpenClaim := { program := "ytdmcdghcmjmidab", sum := "5cdb7f4af1555be0729407252f874a976a8f69c6bdfb948845be4aaaa8b45f83", func := "loop.example/g01215/laws.FnExactTakeLayer", spec := "fnExactTakeLayer", unfollowed := true, recurses := true, apart := false, narrowed := true }
def FnExactTakeLayerUptoSaid : Prop := fnExactTakeLayerUptoRow.holds Try.pinned (OpenSpec.upto fnExactTakeLayerSpec)

end Rows
end Go.Proofs.Ytdmcdghcmjmidab
