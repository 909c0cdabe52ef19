/-
  No cell of these rows narrows 'for every input' (looked for: loops, veiled, ifaces, maps, wideKeys, modest, calm, conditions, laid).
  DERIVED. THE GIVEN ROWS OF THIS SEAT. 7 by the template 'for every input the law returns true; each argument reads behind the call as it read before'; 0 by the template 'total and deterministic' (their statements: YthnkfdhnbafcjaaTotals.lean).
  GIVEN WITH THE SEED: the statements are not yours to turn. If you find one false, say at which input.
  Laid BY PROGRAM, IN A SANDBOX (cutbox-rows.mjs): the forced cells as the released guide's own fill.sh prints them over the translation 5caf35838bf25c4f… (all of the seat's roots in one cut). By AI agents, Wed Nov 11 2026. No macro, syntax, notation, axiom, sorry.
-/
import Derived.Test.YthnkfdhnbafcjaaChecked
import GoSem.Claim
import GoSem.ClaimJoined
import GoSem.ClaimMapViews
import Derived.JoinedTies
import Derived.KernelRfl
namespace Go.Proofs.Ythnkfdhnbafcjaa
/- THE CELL 'sum', in the pinned program and in every row, IS THE sha256 OF THE DUMP (.gsa) THAT YthnkfdhnbafcjaaProg.lean LOADS. Nothing in Lean hashes anything: it is a label: what it is worth is what the hold of that sum in a sandbox is worth. -/
noncomputable def Try.pinned : Pinned := { name := "ythnkfdhnbafcjaa", sum := "5caf35838bf25c4f4fb31b0a4cb3ce8425ade5730a78b3763e2b9b1bd08e9612", checked := Try.checked }
namespace Rows
def none {H : Type} : Left H := { results := [], args := [] }

/-- 'laws.FnExactPourBack': WHATEVER THE INPUT: true; the input reads as it did. -/
def fnExactPourBackSpec : ChangeSpec := { name := "fnExactPourBack", fn := fun _ => fun
  | [d1, d2] => { results := [.lit (.bool true)], args := [d1, d2] }
  | _ => none }
def fnExactPourBackRow : OpenClaim := { program := "ythnkfdhnbafcjaa", sum := "5caf35838bf25c4f4fb31b0a4cb3ce8425ade5730a78b3763e2b9b1bd08e9612", func := "loop.example/g01215/laws.FnExactPourBack", spec := "fnExactPourBack", unfollowed := true, recurses := true, apart := false }
def FnExactPourBackSaid : Prop := fnExactPourBackRow.holds Try.pinned (OpenSpec.ofChange fnExactPourBackSpec)

/-- ITS FALSE NEIGHBOUR: 'it returns false'. Refute it at one input. -/
def fnExactPourBackWrong : ChangeSpec := { name := "fnExactPourBack", fn := fun _ => fun
  | [d1, d2] => { results := [.lit (.bool false)], args := [d1, d2] }
  | _ => none }
def FnExactPourBackWrongFalsely : Prop := fnExactPourBackRow.holds Try.pinned (OpenSpec.ofChange fnExactPourBackWrong)

/-- 'laws.FnExactSourcesOf': WHATEVER THE INPUT: true; the input reads as it did. -/
def fnExactSourcesOfSpec : ChangeSpec := { name := "fnExactSourcesOf", fn := fun _ => fun
  | [d] => { results := [.lit (.bool true)], args := [d] }
  | _ => none }
def fnExactSourcesOfRow : OpenClaim := { program := "ythnkfdhnbafcjaa", sum := "5caf35838bf25c4f4fb31b0a4cb3ce8425ade5730a78b3763e2b9b1bd08e9612", func := "loop.example/g01215/laws.FnExactSourcesOf", spec := "fnExactSourcesOf", unfollowed := true, recurses := true, apart := false }
def FnExactSourcesOfSaid : Prop := fnExactSourcesOfRow.holds Try.pinned (OpenSpec.ofChange fnExactSourcesOfSpec)

/-- ITS FALSE NEIGHBOUR: 'it returns false'. Refute it at one input. -/
def fnExactSourcesOfWrong : ChangeSpec := { name := "fnExactSourcesOf", fn := fun _ => fun
  | [d] => { results := [.lit (.bool false)], args := [d] }
  | _ => none }
def FnExactSourcesOfWrongFalsely : Prop := fnExactSourcesOfRow.holds Try.pinned (OpenSpec.ofChange fnExactSourcesOfWrong)

/-- 'laws.FnExactIsGarden': WHATEVER THE INPUT: true; the input reads as it did. -/
def fnExactIsGardenSpec : ChangeSpec := { name := "fnExactIsGarden", fn := fun _ => fun
  | [d] => { results := [.lit (.bool true)], args := [d] }
  | _ => none }
def fnExactIsGardenRow : OpenClaim := { program := "ythnkfdhnbafcjaa", sum := "5caf35838bf25c4f4fb31b0a4cb3ce8425ade5730a78b3763e2b9b1bd08e9612", func := "loop.example/g01215/laws.FnExactIsGarden", spec := "fnExactIsGarden", unfollowed := true, recurses := true, apart := false }
def FnExactIsGardenSaid : Prop := fnExactIsGardenRow.holds Try.pinned (OpenSpec.ofChange fnExactIsGardenSpec)

/-- ITS FALSE NEIGHBOUR: 'it returns false'. Refute it at one input. -/
def fnExactIsGardenWrong : ChangeSpec := { name := "fnExactIsGarden", fn := fun _ => fun
  | [d] => { results := [.lit (.bool false)], args := [d] }
  | _ => none }
def FnExactIsGardenWrongFalsely : Prop := fnExactIsGardenRow.holds Try.pinned (OpenSpec.ofChange fnExactIsGardenWrong)

/-- 'laws.FnExactPourBacks': WHATEVER THE INPUT: true; the input reads as it did. -/
def fnExactPourBacksSpec : ChangeSpec := { name := "fnExactPourBacks", fn := fun _ => fun
  | [d1, d2] => { results := [.lit (.bool true)], args := [d1, d2] }
  | _ => none }
def fnExactPourBacksRow : OpenClaim := { program := "ythnkfdhnbafcjaa", sum := "5caf35838bf25c4f4fb31b0a4cb3ce8425ade5730a78b3763e2b9b1bd08e9612", func := "loop.example/g01215/laws.FnExactPourBacks", spec := "fnExactPourBacks", unfollowed := true, recurses := true, apart := false }
def FnExactPourBacksSaid : Prop := fnExactPourBacksRow.holds Try.pinned (OpenSpec.ofChange fnExactPourBacksSpec)

/-- ITS FALSE NEIGHBOUR: 'it returns false'. Refute it at one input. -/
def fnExactPourBacksWrong : ChangeSpec := { name := "fnExactPourBacks", fn := fun _ => fun
  | [d1, d2] => { results := [.lit (.bool false)], args := [d1, d2] }
  | _ => none }
def FnExactPourBacksWrongFalsely : Prop := fnExactPourBacksRow.holds Try.pinned (OpenSpec.ofChange fnExactPourBacksWrong)

/-- 'laws.FnExactBackTo': WHATEVER THE INPUT: true; the input reads as it did. -/
def fnExactBackToSpec : ChangeSpec := { name := "fnExactBackTo", fn := fun _ => fun
  | [d1, d2] => { results := [.lit (.bool true)], args := [d1, d2] }
  | _ => none }
def fnExactBackToRow : OpenClaim := { program := "ythnkfdhnbafcjaa", sum := "5caf35838bf25c4f4fb31b0a4cb3ce8425ade5730a78b3763e2b9b1bd08e9612", func := "loop.example/g01215/laws.FnExactBackTo", spec := "fnExactBackTo", unfollowed := true, recurses := true, apart := false }
def FnExactBackToSaid : Prop := fnExactBackToRow.holds Try.pinned (OpenSpec.ofChange fnExactBackToSpec)

/-- ITS FALSE NEIGHBOUR: 'it returns false'. Refute it at one input. -/
def fnExactBackToWrong : ChangeSpec := { name := "fnExactBackTo", fn := fun _ => fun
  | [d1, d2] => { results := [.lit (.bool false)], args := [d1, d2] }
  | _ => none }
def FnExactBackToWrongFalsely : Prop := fnExactBackToRow.holds Try.pinned (OpenSpec.ofChange fnExactBackToWrong)

/-- 'laws.FnExactPlainRack': WHATEVER THE INPUT: true; the input reads as it did. -/
def fnExactPlainRackSpec : ChangeSpec := { name := "fnExactPlainRack", fn := fun _ => fun
  | [d] => { results := [.lit (.bool true)], args := [d] }
  | _ => none }
def fnExactPlainRackRow : OpenClaim := { program := "ythnkfdhnbafcjaa", sum := "5caf35838bf25c4f4fb31b0a4cb3ce8425ade5730a78b3763e2b9b1bd08e9612", func := "loop.example/g01215/laws.FnExactPlainRack", spec := "fnExactPlainRack", apart := false }
def FnExactPlainRackSaid : Prop := fnExactPlainRackRow.holds Try.pinned (OpenSpec.ofChange fnExactPlainRackSpec)

/-- ITS FALSE NEIGHBOUR: 'it returns false'. Refute it at one input. -/
def fnExactPlainRackWrong : ChangeSpec := { name := "fnExactPlainRack", fn := fun _ => fun
  | [d] => { results := [.lit (.bool false)], args := [d] }
  | _ => none }
def FnExactPlainRackWrongFalsely : Prop := fnExactPlainRackRow.holds Try.pinned (OpenSpec.ofChange fnExactPlainRackWrong)

/-- 'laws.FnExactIsUndone': WHATEVER THE INPUT: true; the input reads as it did. -/
def fnExactIsUndoneSpec : ChangeSpec := { name := "fnExactIsUndone", fn := fun _ => fun
  | [d1, d2, d3] => { results := [.lit (.bool true)], args := [d1, d2, d3] }
  | _ => none }
def fnExactIsUndoneRow : OpenClaim := { program := "ythnkfdhnbafcjaa", sum := "5caf35838bf25c4f4fb31b0a4cb3ce8425ade5730a78b3763e2b9b1bd08e9612", func := "loop.example/g01215/laws.FnExactIsUndone", spec := "fnExactIsUndone", unfollowed := true, recurses := true, apart := false }
def FnExactIsUndoneSaid : Prop := fnExactIsUndoneRow.holds Try.pinned (OpenSpec.ofChange fnExactIsUndoneSpec)

/-- ITS FALSE NEIGHBOUR: 'it returns false'. Refute it at one input. -/
def fnExactIsUndoneWrong : ChangeSpec := { name := "fnExactIsUndone", fn := fun _ => fun
  | [d1, d2, d3] => { results := [.lit (.bool false)], args := [d1, d2, d3] }
  | _ => none }
def FnExactIsUndoneWrongFalsely : Prop := fnExactIsUndoneRow.holds Try.pinned (OpenSpec.ofChange fnExactIsUndoneWrong)

/- THE SECOND FORM. 'bulk': how many values and letters a reading holds, each counted each time it is reached (what is shared counts as often as it is met; a slice's spare places count too). A statement '..UptoSaid' is the law's where the arguments, and the package variables that the reading takes, are together of bulk at most 1048576: NARROWER than '..Said'. Prove '..Said' where nothing that the law and all that it calls make is longer than what came in: it says more and counts as full. Else prove '..UptoSaid'. A law counts once. -/
mutual
def uptoBulk {H : Type} : DataW H → Nat
  | .lit (.string bytes) => bytes.length + 1
  | .lit _ => 1
  | .nil => 1
  | .ptr d => uptoBulk d + 1
  | .slice elems spare => uptoBulkAll elems + uptoBulkAll spare + 1
  | .agg parts => uptoBulkAll parts + 1
  | .iface _ d => uptoBulk d + 1
  | .map entries => uptoBulkEntries entries + 1
  | .held _ => 1
def uptoBulkAll {H : Type} : List (DataW H) → Nat
  | [] => 0
  | d :: r => uptoBulk d + uptoBulkAll r
def uptoBulkEntries {H : Type} : List (Lit × DataW H) → Nat
  | [] => 0
  | x :: r => uptoBulkEntry x + uptoBulkEntries r
def uptoBulkEntry {H : Type} : Lit × DataW H → Nat
  | (.string bytes, d) => bytes.length + uptoBulk d + 1
  | (_, d) => uptoBulk d + 1
 end
def uptoSmall : (H : Type) → List (DataW H) → Bool := fun _ ds => decide (uptoBulkAll ds ≤ 1048576)
def OpenSpec.upto (s : _root_.Go.ChangeSpec) : _root_.Go.OpenSpec := { _root_.Go.OpenSpec.ofChange s with cond := some uptoSmall }

/-- 'laws.FnExactPourBack', WHERE WHAT IT READS IS OF BULK AT MOST 1048576: true; the input reads as it did. -/
def fnExactPourBackUptoRow : OpenClaim := { program := "ythnkfdhnbafcjaa", sum := "5caf35838bf25c4f4fb31b0a4cb3ce8425ade5730a78b3763e2b9b1bd08e9612", func := "loop.example/g01215/laws.FnExactPourBack", spec := "fnExactPourBack", unfollowed := true, recurses := true, apart := false, narrowed := true }
def FnExactPourBackUptoSaid : Prop := fnExactPourBackUptoRow.holds Try.pinned (OpenSpec.upto fnExactPourBackSpec)

/-- 'laws.FnExactSourcesOf', WHERE WHAT IT READS IS OF BULK AT MOST 1048576: true; the input reads as it did. -/
def fnExactSourcesOfUptoRow : OpenClaim := { program := "ythnkfdhnbafcjaa", sum := "5caf35838bf25c4f4fb31b0a4cb3ce8425ade5730a78b3763e2b9b1bd08e9612", func := "loop.example/g01215/laws.FnExactSourcesOf", spec := "fnExactSourcesOf", unfollowed := true, recurses := true, apart := false, narrowed := true }
def FnExactSourcesOfUptoSaid : Prop := fnExactSourcesOfUptoRow.holds Try.pinned (OpenSpec.upto fnExactSourcesOfSpec)

/-- 'laws.FnExactIsGarden', WHERE WHAT IT READS IS OF BULK AT MOST 1048576: true; the input reads as it did. -/
def fnExactIsGardenUptoRow : OpenClaim := { program := "ythnkfdhnbafcjaa", sum := "5caf35838bf25c4f4fb31b0a4cb3ce8425ade5730a78b3763e2b9b1bd08e9612", func := "loop.example/g01215/laws.FnExactIsGarden", spec := "fnExactIsGarden", unfollowed := true, recurses := true, apart := false, narrowed := true }
def FnExactIsGardenUptoSaid : Prop := fnExactIsGardenUptoRow.holds Try.pinned (OpenSpec.upto fnExactIsGardenSpec)

/-- 'laws.FnExactPourBacks', WHERE WHAT IT READS IS OF BULK AT MOST 1048576: true; the input reads as it did. -/
def fnExactPourBacksUptoRow : OpenClaim := { program := "ythnkfdhnbafcjaa", sum := "5caf35838bf25c4f4fb31b0a4cb3ce8425ade5730a78b3763e2b9b1bd08e9612", func := "loop.example/g01215/laws.FnExactPourBacks", spec := "fnExactPourBacks", unfollowed := true, recurses := true, apart := false, narrowed := true }
def FnExactPourBacksUptoSaid : Prop := fnExactPourBacksUptoRow.holds Try.pinned (OpenSpec.upto fnExactPourBacksSpec)

/-- 'laws.FnExactBackTo', WHERE WHAT IT READS IS OF BULK AT MOST 1048576: true; the input reads as it did. -/
def fnExactBackToUptoRow : OpenClaim := { program := "ythnkfdhnbafcjaa", sum := "5caf35838bf25c4f4fb31b0a4cb3ce8425ade5730a78b3763e2b9b1bd08e9612", func := "loop.example/g01215/laws.FnExactBackTo", spec := "fnExactBackTo", unfollowed := true, recurses := true, apart := false, narrowed := true }
def FnExactBackToUptoSaid : Prop := fnExactBackToUptoRow.holds Try.pinned (OpenSpec.upto fnExactBackToSpec)

/-- 'laws.FnExactPlainRack', WHERE WHAT IT READS IS OF BULK AT MOST 1048576: true; the input reads as it did. -/
def fnExactPlainRackUptoRow : OpenClaim := { program := "ythnkfdhnbafcjaa", sum := "5caf35838bf25c4f4fb31b0a4cb3ce8425ade5730a78b3763e2b9b1bd08e9612", func := "loop.example/g01215/laws.FnExactPlainRack", spec := "fnExactPlainRack", apart := false, narrowed := true }
def FnExactPlainRackUptoSaid : Prop := fnExactPlainRackUptoRow.holds Try.pinned (OpenSpec.upto fnExactPlainRackSpec)

/-- 'laws.FnExactIsUndone', WHERE WHAT IT READS IS OF BULK AT MOST 1048576: true; the input reads as it did. -/
def fnExactIsUndoneUptoRow : OpenClaim := { program := "ythnkfdhnbafcjaa", sum := "5caf35838bf25c4f4fb31b0a4cb3ce8425ade5730a78b3763e2b9b1bd08e9612", func := "loop.example/g01215/laws.FnExactIsUndone", spec := "fnExactIsUndone", unfollowed := true, recurses := true, apart := false, narrowed := true }
def FnExactIsUndoneUptoSaid : Prop := fnExactIsUndoneUptoRow.holds Try.pinned (OpenSpec.upto fnExactIsUndoneSpec)

end Rows
end Go.Proofs.Ythnkfdhnbafcjaa
