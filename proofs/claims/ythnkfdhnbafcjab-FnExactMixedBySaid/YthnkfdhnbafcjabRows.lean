/-
  No cell of these rows narrows 'for every input' (looked for: loops, veiled, ifaces, maps, wideKeys, modest, calm, conditions, laid).
  DERIVED. THE GIVEN ROWS OF THIS SEAT. 5 by the template 'for every input the law returns true; each argument reads behind the call as it read before'; 0 by the template 'total and deterministic' (their statements: YthnkfdhnbafcjabTotals.lean).
  GIVEN WITH THE SEED: the statements are not yours to turn. If you find one false, say at which input.
  Laid BY PROGRAM, IN A SANDBOX (cutbox-rows.mjs): the forced cells as the released guide's own fill.sh prints them over the translation fd20fcdc3870b369… (all of the seat's roots in one cut). By AI agents, Wed Nov 11 2026. No macro, syntax, notation, axiom, sorry.
-/
import Derived.Test.YthnkfdhnbafcjabChecked
import GoSem.Claim
import GoSem.ClaimJoined
import GoSem.ClaimMapViews
import Derived.JoinedTies
import Derived.KernelRfl
namespace Go.Proofs.Ythnkfdhnbafcjab
/- THE CELL 'sum', in the pinned program and in every row, IS THE sha256 OF THE DUMP (.gsa) THAT YthnkfdhnbafcjabProg.lean LOADS. Nothing in Lean hashes anything: it is a label: what it is worth is what the hold of that sum in a sandbox is worth. -/
noncomputable def Try.pinned : Pinned := { name := "ythnkfdhnbafcjab", sum := "fd20fcdc3870b369488e2fa765a98305fd7839b28d4ab6f756068fa33dc4f493", checked := Try.checked }
namespace Rows
def none {H : Type} : Left H := { results := [], args := [] }

/-- 'laws.FnExactUndonePours': WHATEVER THE INPUT: true; the input reads as it did. -/
def fnExactUndonePoursSpec : ChangeSpec := { name := "fnExactUndonePours", fn := fun _ => fun
  | [d] => { results := [.lit (.bool true)], args := [d] }
  | _ => none }
def fnExactUndonePoursRow : OpenClaim := { program := "ythnkfdhnbafcjab", sum := "fd20fcdc3870b369488e2fa765a98305fd7839b28d4ab6f756068fa33dc4f493", func := "loop.example/g01215/laws.FnExactUndonePours", spec := "fnExactUndonePours", unfollowed := true, recurses := true, plainKeys := false, apart := false }
def FnExactUndonePoursSaid : Prop := fnExactUndonePoursRow.holds Try.pinned (OpenSpec.ofChange fnExactUndonePoursSpec)

/-- ITS FALSE NEIGHBOUR: 'it returns false'. Refute it at one input. -/
def fnExactUndonePoursWrong : ChangeSpec := { name := "fnExactUndonePours", fn := fun _ => fun
  | [d] => { results := [.lit (.bool false)], args := [d] }
  | _ => none }
def FnExactUndonePoursWrongFalsely : Prop := fnExactUndonePoursRow.holds Try.pinned (OpenSpec.ofChange fnExactUndonePoursWrong)

/-- 'laws.FnExactMixedBy': WHATEVER THE INPUT: true; the input reads as it did. -/
def fnExactMixedBySpec : ChangeSpec := { name := "fnExactMixedBy", fn := fun _ => fun
  | [d1, d2] => { results := [.lit (.bool true)], args := [d1, d2] }
  | _ => none }
def fnExactMixedByRow : OpenClaim := { program := "ythnkfdhnbafcjab", sum := "fd20fcdc3870b369488e2fa765a98305fd7839b28d4ab6f756068fa33dc4f493", func := "loop.example/g01215/laws.FnExactMixedBy", spec := "fnExactMixedBy", unfollowed := true, recurses := true, plainKeys := false, apart := false }
def FnExactMixedBySaid : Prop := fnExactMixedByRow.holds Try.pinned (OpenSpec.ofChange fnExactMixedBySpec)

/-- ITS FALSE NEIGHBOUR: 'it returns false'. Refute it at one input. -/
def fnExactMixedByWrong : ChangeSpec := { name := "fnExactMixedBy", fn := fun _ => fun
  | [d1, d2] => { results := [.lit (.bool false)], args := [d1, d2] }
  | _ => none }
def FnExactMixedByWrongFalsely : Prop := fnExactMixedByRow.holds Try.pinned (OpenSpec.ofChange fnExactMixedByWrong)

/-- 'laws.FnExactRacksBefore': WHATEVER THE INPUT: true; the input reads as it did. -/
def fnExactRacksBeforeSpec : ChangeSpec := { name := "fnExactRacksBefore", fn := fun _ => fun
  | [d] => { results := [.lit (.bool true)], args := [d] }
  | _ => none }
def fnExactRacksBeforeRow : OpenClaim := { program := "ythnkfdhnbafcjab", sum := "fd20fcdc3870b369488e2fa765a98305fd7839b28d4ab6f756068fa33dc4f493", func := "loop.example/g01215/laws.FnExactRacksBefore", spec := "fnExactRacksBefore", unfollowed := true, recurses := true, plainKeys := false, apart := false }
def FnExactRacksBeforeSaid : Prop := fnExactRacksBeforeRow.holds Try.pinned (OpenSpec.ofChange fnExactRacksBeforeSpec)

/-- ITS FALSE NEIGHBOUR: 'it returns false'. Refute it at one input. -/
def fnExactRacksBeforeWrong : ChangeSpec := { name := "fnExactRacksBefore", fn := fun _ => fun
  | [d] => { results := [.lit (.bool false)], args := [d] }
  | _ => none }
def FnExactRacksBeforeWrongFalsely : Prop := fnExactRacksBeforeRow.holds Try.pinned (OpenSpec.ofChange fnExactRacksBeforeWrong)

/-- 'laws.FnExactCountFormsBefore': WHATEVER THE INPUT: true; the input reads as it did. -/
def fnExactCountFormsBeforeSpec : ChangeSpec := { name := "fnExactCountFormsBefore", fn := fun _ => fun
  | [d] => { results := [.lit (.bool true)], args := [d] }
  | _ => none }
def fnExactCountFormsBeforeRow : OpenClaim := { program := "ythnkfdhnbafcjab", sum := "fd20fcdc3870b369488e2fa765a98305fd7839b28d4ab6f756068fa33dc4f493", func := "loop.example/g01215/laws.FnExactCountFormsBefore", spec := "fnExactCountFormsBefore", unfollowed := true, recurses := true, plainKeys := false, apart := false }
def FnExactCountFormsBeforeSaid : Prop := fnExactCountFormsBeforeRow.holds Try.pinned (OpenSpec.ofChange fnExactCountFormsBeforeSpec)

/-- ITS FALSE NEIGHBOUR: 'it returns false'. Refute it at one input. -/
def fnExactCountFormsBeforeWrong : ChangeSpec := { name := "fnExactCountFormsBefore", fn := fun _ => fun
  | [d] => { results := [.lit (.bool false)], args := [d] }
  | _ => none }
def FnExactCountFormsBeforeWrongFalsely : Prop := fnExactCountFormsBeforeRow.holds Try.pinned (OpenSpec.ofChange fnExactCountFormsBeforeWrong)

/-- 'laws.FnExactGardensBefore': WHATEVER THE INPUT: true; the input reads as it did. -/
def fnExactGardensBeforeSpec : ChangeSpec := { name := "fnExactGardensBefore", fn := fun _ => fun
  | [d] => { results := [.lit (.bool true)], args := [d] }
  | _ => none }
def fnExactGardensBeforeRow : OpenClaim := { program := "ythnkfdhnbafcjab", sum := "fd20fcdc3870b369488e2fa765a98305fd7839b28d4ab6f756068fa33dc4f493", func := "loop.example/g01215/laws.FnExactGardensBefore", spec := "fnExactGardensBefore", unfollowed := true, recurses := true, plainKeys := false, apart := false }
def FnExactGardensBeforeSaid : Prop := fnExactGardensBeforeRow.holds Try.pinned (OpenSpec.ofChange fnExactGardensBeforeSpec)

/-- ITS FALSE NEIGHBOUR: 'it returns false'. Refute it at one input. -/
def fnExactGardensBeforeWrong : ChangeSpec := { name := "fnExactGardensBefore", fn := fun _ => fun
  | [d] => { results := [.lit (.bool false)], args := [d] }
  | _ => none }
def FnExactGardensBeforeWrongFalsely : Prop := fnExactGardensBeforeRow.holds Try.pinned (OpenSpec.ofChange fnExactGardensBeforeWrong)

/- THE SECOND FORM. 'bulk': how many values and letters a reading holds, each counted each time it is reached (what is shared counts as often as it is met; a slice's spare places count too). A statement '..UptoSaid' is the law's where the arguments, and the package variables that the reading takes, are together of bulk at most 1048576: NARROWER than '..Said'. Prove '..Said' where nothing that the law and all that it calls make is longer than what came in: it says more and counts as full. Else prove '..UptoSaid'. A law counts once. -/
mutual
def uptoBulk {H : Type} : DataW H → Nat
  | .lit (.string bytes) => bytes.length + 1
  | .lit _ => 1
  | .nil => 1
  | .ptr d => uptoBulk d + 1
  | .slice elems spare => uptoBulkAll elems + uptoBulkAll spare + 1
  | .agg parts => uptoBulkAll parts + 1
  | .iface _ d => uptoBulk d + 1
  | .map entries => uptoBulkEntries entries + 1
  | .held _ => 1
def uptoBulkAll {H : Type} : List (DataW H) → Nat
  | [] => 0
  | d :: r => uptoBulk d + uptoBulkAll r
def uptoBulkEntries {H : Type} : List (Lit × DataW H) → Nat
  | [] => 0
  | x :: r => uptoBulkEntry x + uptoBulkEntries r
def uptoBulkEntry {H : Type} : Lit × DataW H → Nat
  | (.string bytes, d) => bytes.length + uptoBulk d + 1
  | (_, d) => uptoBulk d + 1
 end
def uptoSmall : (H : Type) → List (DataW H) → Bool := fun _ ds => decide (uptoBulkAll ds ≤ 1048576)
def OpenSpec.upto (s : _root_.Go.ChangeSpec) : _root_.Go.OpenSpec := { _root_.Go.OpenSpec.ofChange s with cond := some uptoSmall }

/-- 'laws.FnExactUndonePours', WHERE WHAT IT READS IS OF BULK AT MOST 1048576: true; the input reads as it did. -/
def fnExactUndonePoursUptoRow : OpenClaim := { program := "ythnkfdhnbafcjab", sum := "fd20fcdc3870b369488e2fa765a98305fd7839b28d4ab6f756068fa33dc4f493", func := "loop.example/g01215/laws.FnExactUndonePours", spec := "fnExactUndonePours", unfollowed := true, recurses := true, plainKeys := false, apart := false, narrowed := true }
def FnExactUndonePoursUptoSaid : Prop := fnExactUndonePoursUptoRow.holds Try.pinned (OpenSpec.upto fnExactUndonePoursSpec)

/-- 'laws.FnExactMixedBy', WHERE WHAT IT READS IS OF BULK AT MOST 1048576: true; the input reads as it did. -/
def fnExactMixedByUptoRow : OpenClaim := { program := "ythnkfdhnbafcjab", sum := "fd20fcdc3870b369488e2fa765a98305fd7839b28d4ab6f756068fa33dc4f493", func := "loop.example/g01215/laws.FnExactMixedBy", spec := "fnExactMixedBy", unfollowed := true, recurses := true, plainKeys := false, apart := false, narrowed := true }
def FnExactMixedByUptoSaid : Prop := fnExactMixedByUptoRow.holds Try.pinned (OpenSpec.upto fnExactMixedBySpec)

/-- 'laws.FnExactRacksBefore', WHERE WHAT IT READS IS OF BULK AT MOST 1048576: true; the input reads as it did. -/
def fnExactRacksBeforeUptoRow : OpenClaim := { program := "ythnkfdhnbafcjab", sum := "fd20fcdc3870b369488e2fa765a98305fd7839b28d4ab6f756068fa33dc4f493", func := "loop.example/g01215/laws.FnExactRacksBefore", spec := "fnExactRacksBefore", unfollowed := true, recurses := true, plainKeys := false, apart := false, narrowed := true }
def FnExactRacksBeforeUptoSaid : Prop := fnExactRacksBeforeUptoRow.holds Try.pinned (OpenSpec.upto fnExactRacksBeforeSpec)

/-- 'laws.FnExactCountFormsBefore', WHERE WHAT IT READS IS OF BULK AT MOST 1048576: true; the input reads as it did. -/
def fnExactCountFormsBeforeUptoRow : OpenClaim := { program := "ythnkfdhnbafcjab", sum := "fd20fcdc3870b369488e2fa765a98305fd7839b28d4ab6f756068fa33dc4f493", func := "loop.example/g01215/laws.FnExactCountFormsBefore", spec := "fnExactCountFormsBefore", unfollowed := true, recurses := true, plainKeys := false, apart := false, narrowed := true }
def FnExactCountFormsBeforeUptoSaid : Prop := fnExactCountFormsBeforeUptoRow.holds Try.pinned (OpenSpec.upto fnExactCountFormsBeforeSpec)

/-- 'laws.FnExactGardensBefore', WHERE WHAT IT READS IS OF BULK AT MOST 1048576: true; the input reads as it did. -/
def fnExactGardensBeforeUptoRow : OpenClaim := { program := "ythnkfdhnbafcjab", sum := "fd20fcdc3870b369488e2fa765a98305fd7839b28d4ab6f756068fa33dc4f493", func := "loop.example/g01215/laws.FnExactGardensBefore", spec := "fnExactGardensBefore", unfollowed := true, recurses := true, plainKeys := false, apart := false, narrowed := true }
def FnExactGardensBeforeUptoSaid : Prop := fnExactGardensBeforeUptoRow.holds Try.pinned (OpenSpec.upto fnExactGardensBeforeSpec)

end Rows
end Go.Proofs.Ythnkfdhnbafcjab
