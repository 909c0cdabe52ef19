/-
  No cell of these rows narrows 'for every input' (looked for: loops, veiled, ifaces, maps, wideKeys, modest, calm, conditions, laid).
  DERIVED. THE GIVEN ROWS OF THIS SEAT. 6 by the template 'for every input the law returns true; each argument reads behind the call as it read before'; 0 by the template 'total and deterministic' (their statements: YtmodkllhdeknoabTotals.lean).
  GIVEN WITH THE SEED: the statements are not yours to turn. If you find one false, say at which input.
  Laid BY PROGRAM, IN A SANDBOX (cutbox-rows.mjs): the forced cells as the released guide's own fill.sh prints them over the translation 684745872c590315… (all of the seat's roots in one cut). By AI agents, Wed Nov 11 2026. No macro, syntax, notation, axiom, sorry.
-/
import Derived.Test.YtmodkllhdeknoabChecked
import GoSem.Claim
import GoSem.ClaimJoined
import GoSem.ClaimMapViews
import Derived.JoinedTies
import Derived.KernelRfl
namespace Go.Proofs.Ytmodkllhdeknoab
/- THE CELL 'sum', in the pinned program and in every row, IS THE sha256 OF THE DUMP (.gsa) THAT YtmodkllhdeknoabProg.lean LOADS. Nothing in Lean hashes anything: it is a label: what it is worth is what the hold of that sum in a sandbox is worth. -/
noncomputable def Try.pinned : Pinned := { name := "ytmodkllhdeknoab", sum := "684745872c590315e9c678860773551b7cf5848561b0e57d730c8c5ab9b10227", checked := Try.checked }
namespace Rows
def none {H : Type} : Left H := { results := [], args := [] }

/-- 'laws.FnExactPourChange': WHATEVER THE INPUT: true; the input reads as it did. -/
def fnExactPourChangeSpec : ChangeSpec := { name := "fnExactPourChange", fn := fun _ => fun
  | [d1, d2, d3] => { results := [.lit (.bool true)], args := [d1, d2, d3] }
  | _ => none }
def fnExactPourChangeRow : OpenClaim := { program := "ytmodkllhdeknoab", sum := "684745872c590315e9c678860773551b7cf5848561b0e57d730c8c5ab9b10227", func := "loop.example/g01215/laws.FnExactPourChange", spec := "fnExactPourChange", unfollowed := true, recurses := true, apart := false }
def FnExactPourChangeSaid : Prop := fnExactPourChangeRow.holds Try.pinned (OpenSpec.ofChange fnExactPourChangeSpec)

/-- ITS FALSE NEIGHBOUR: 'it returns false'. Refute it at one input. -/
def fnExactPourChangeWrong : ChangeSpec := { name := "fnExactPourChange", fn := fun _ => fun
  | [d1, d2, d3] => { results := [.lit (.bool false)], args := [d1, d2, d3] }
  | _ => none }
def FnExactPourChangeWrongFalsely : Prop := fnExactPourChangeRow.holds Try.pinned (OpenSpec.ofChange fnExactPourChangeWrong)

/-- 'laws.FnExactGoodPours': WHATEVER THE INPUT: true; the input reads as it did. -/
def fnExactGoodPoursSpec : ChangeSpec := { name := "fnExactGoodPours", fn := fun _ => fun
  | [d] => { results := [.lit (.bool true)], args := [d] }
  | _ => none }
def fnExactGoodPoursRow : OpenClaim := { program := "ytmodkllhdeknoab", sum := "684745872c590315e9c678860773551b7cf5848561b0e57d730c8c5ab9b10227", func := "loop.example/g01215/laws.FnExactGoodPours", spec := "fnExactGoodPours", unfollowed := true, recurses := true, apart := false }
def FnExactGoodPoursSaid : Prop := fnExactGoodPoursRow.holds Try.pinned (OpenSpec.ofChange fnExactGoodPoursSpec)

/-- ITS FALSE NEIGHBOUR: 'it returns false'. Refute it at one input. -/
def fnExactGoodPoursWrong : ChangeSpec := { name := "fnExactGoodPours", fn := fun _ => fun
  | [d] => { results := [.lit (.bool false)], args := [d] }
  | _ => none }
def FnExactGoodPoursWrongFalsely : Prop := fnExactGoodPoursRow.holds Try.pinned (OpenSpec.ofChange fnExactGoodPoursWrong)

/-- 'laws.FnExactGoodPath': WHATEVER THE INPUT: true; the input reads as it did. -/
def fnExactGoodPathSpec : ChangeSpec := { name := "fnExactGoodPath", fn := fun _ => fun
  | [d] => { results := [.lit (.bool true)], args := [d] }
  | _ => none }
def fnExactGoodPathRow : OpenClaim := { program := "ytmodkllhdeknoab", sum := "684745872c590315e9c678860773551b7cf5848561b0e57d730c8c5ab9b10227", func := "loop.example/g01215/laws.FnExactGoodPath", spec := "fnExactGoodPath", unfollowed := true, recurses := true, apart := false }
def FnExactGoodPathSaid : Prop := fnExactGoodPathRow.holds Try.pinned (OpenSpec.ofChange fnExactGoodPathSpec)

/-- ITS FALSE NEIGHBOUR: 'it returns false'. Refute it at one input. -/
def fnExactGoodPathWrong : ChangeSpec := { name := "fnExactGoodPath", fn := fun _ => fun
  | [d] => { results := [.lit (.bool false)], args := [d] }
  | _ => none }
def FnExactGoodPathWrongFalsely : Prop := fnExactGoodPathRow.holds Try.pinned (OpenSpec.ofChange fnExactGoodPathWrong)

/-- 'laws.FnExactIsGoodPath': WHATEVER THE INPUT: true; the input reads as it did. -/
def fnExactIsGoodPathSpec : ChangeSpec := { name := "fnExactIsGoodPath", fn := fun _ => fun
  | [d1, d2] => { results := [.lit (.bool true)], args := [d1, d2] }
  | _ => none }
def fnExactIsGoodPathRow : OpenClaim := { program := "ytmodkllhdeknoab", sum := "684745872c590315e9c678860773551b7cf5848561b0e57d730c8c5ab9b10227", func := "loop.example/g01215/laws.FnExactIsGoodPath", spec := "fnExactIsGoodPath", unfollowed := true, recurses := true, apart := false }
def FnExactIsGoodPathSaid : Prop := fnExactIsGoodPathRow.holds Try.pinned (OpenSpec.ofChange fnExactIsGoodPathSpec)

/-- ITS FALSE NEIGHBOUR: 'it returns false'. Refute it at one input. -/
def fnExactIsGoodPathWrong : ChangeSpec := { name := "fnExactIsGoodPath", fn := fun _ => fun
  | [d1, d2] => { results := [.lit (.bool false)], args := [d1, d2] }
  | _ => none }
def FnExactIsGoodPathWrongFalsely : Prop := fnExactIsGoodPathRow.holds Try.pinned (OpenSpec.ofChange fnExactIsGoodPathWrong)

/-- 'laws.FnExactBoundsAlong': WHATEVER THE INPUT: true; the input reads as it did. -/
def fnExactBoundsAlongSpec : ChangeSpec := { name := "fnExactBoundsAlong", fn := fun _ => fun
  | [d1, d2] => { results := [.lit (.bool true)], args := [d1, d2] }
  | _ => none }
def fnExactBoundsAlongRow : OpenClaim := { program := "ytmodkllhdeknoab", sum := "684745872c590315e9c678860773551b7cf5848561b0e57d730c8c5ab9b10227", func := "loop.example/g01215/laws.FnExactBoundsAlong", spec := "fnExactBoundsAlong", unfollowed := true, recurses := true, apart := false }
def FnExactBoundsAlongSaid : Prop := fnExactBoundsAlongRow.holds Try.pinned (OpenSpec.ofChange fnExactBoundsAlongSpec)

/-- ITS FALSE NEIGHBOUR: 'it returns false'. Refute it at one input. -/
def fnExactBoundsAlongWrong : ChangeSpec := { name := "fnExactBoundsAlong", fn := fun _ => fun
  | [d1, d2] => { results := [.lit (.bool false)], args := [d1, d2] }
  | _ => none }
def FnExactBoundsAlongWrongFalsely : Prop := fnExactBoundsAlongRow.holds Try.pinned (OpenSpec.ofChange fnExactBoundsAlongWrong)

/-- 'laws.FnExactMostPoured': WHATEVER THE INPUT: true; the input reads as it did. -/
def fnExactMostPouredSpec : ChangeSpec := { name := "fnExactMostPoured", fn := fun _ => fun
  | [d] => { results := [.lit (.bool true)], args := [d] }
  | _ => none }
def fnExactMostPouredRow : OpenClaim := { program := "ytmodkllhdeknoab", sum := "684745872c590315e9c678860773551b7cf5848561b0e57d730c8c5ab9b10227", func := "loop.example/g01215/laws.FnExactMostPoured", spec := "fnExactMostPoured", unfollowed := true, recurses := true, apart := false }
def FnExactMostPouredSaid : Prop := fnExactMostPouredRow.holds Try.pinned (OpenSpec.ofChange fnExactMostPouredSpec)

/-- ITS FALSE NEIGHBOUR: 'it returns false'. Refute it at one input. -/
def fnExactMostPouredWrong : ChangeSpec := { name := "fnExactMostPoured", fn := fun _ => fun
  | [d] => { results := [.lit (.bool false)], args := [d] }
  | _ => none }
def FnExactMostPouredWrongFalsely : Prop := fnExactMostPouredRow.holds Try.pinned (OpenSpec.ofChange fnExactMostPouredWrong)

/- THE SECOND FORM. 'bulk': how many values and letters a reading holds, each counted each time it is reached (what is shared counts as often as it is met; a slice's spare places count too). A statement '..UptoSaid' is the law's where the arguments, and the package variables that the reading takes, are together of bulk at most 1048576: NARROWER than '..Said'. Prove '..Said' where nothing that the law and all that it calls make is longer than what came in: it says more and counts as full. Else prove '..UptoSaid'. A law counts once. -/
mutual
def uptoBulk {H : Type} : DataW H → Nat
  | .lit (.string bytes) => bytes.length + 1
  | .lit _ => 1
  | .nil => 1
  | .ptr d => uptoBulk d + 1
  | .slice elems spare => uptoBulkAll elems + uptoBulkAll spare + 1
  | .agg parts => uptoBulkAll parts + 1
  | .iface _ d => uptoBulk d + 1
  | .map entries => uptoBulkEntries entries + 1
  | .held _ => 1
def uptoBulkAll {H : Type} : List (DataW H) → Nat
  | [] => 0
  | d :: r => uptoBulk d + uptoBulkAll r
def uptoBulkEntries {H : Type} : List (Lit × DataW H) → Nat
  | [] => 0
  | x :: r => uptoBulkEntry x + uptoBulkEntries r
def uptoBulkEntry {H : Type} : Lit × DataW H → Nat
  | (.string bytes, d) => bytes.length + uptoBulk d + 1
  | (_, d) => uptoBulk d + 1
 end
def uptoSmall : (H : Type) → List (DataW H) → Bool := fun _ ds => decide (uptoBulkAll ds ≤ 1048576)
def OpenSpec.upto (s : _root_.Go.ChangeSpec) : _root_.Go.OpenSpec := { _root_.Go.OpenSpec.ofChange s with cond := some uptoSmall }

/-- 'laws.FnExactPourChange', WHERE WHAT IT READS IS OF BULK AT MOST 1048576: true; the input reads as it did. -/
def fnExactPourChangeUptoRow : OpenClaim := { program := "ytmodkllhdeknoab", sum := "684745872c590315e9c678860773551b7cf5848561b0e57d730c8c5ab9b10227", func := "loop.example/g01215/laws.FnExactPourChange", spec := "fnExactPourChange", unfollowed := true, recurses := true, apart := false, narrowed := true }
def FnExactPourChangeUptoSaid : Prop := fnExactPourChangeUptoRow.holds Try.pinned (OpenSpec.upto fnExactPourChangeSpec)

/-- 'laws.FnExactGoodPours', WHERE WHAT IT READS IS OF BULK AT MOST 1048576: true; the input reads as it did. -/
def fnExactGoodPoursUptoRow : OpenClaim := { program := "ytmodkllhdeknoab", sum := "684745872c590315e9c678860773551b7cf5848561b0e57d730c8c5ab9b10227", func := "loop.example/g01215/laws.FnExactGoodPours", spec := "fnExactGoodPours", unfollowed := true, recurses := true, apart := false, narrowed := true }
def FnExactGoodPoursUptoSaid : Prop := fnExactGoodPoursUptoRow.holds Try.pinned (OpenSpec.upto fnExactGoodPoursSpec)

/-- 'laws.FnExactGoodPath', WHERE WHAT IT READS IS OF BULK AT MOST 1048576: true; the input reads as it did. -/
def fnExactGoodPathUptoRow : OpenClaim := { program := "ytmodkllhdeknoab", sum := "684745872c590315e9c678860773551b7cf5848561b0e57d730c8c5ab9b10227", func := "loop.example/g01215/laws.FnExactGoodPath", spec := "fnExactGoodPath", unfollowed := true, recurses := true, apart := false, narrowed := true }
def FnExactGoodPathUptoSaid : Prop := fnExactGoodPathUptoRow.holds Try.pinned (OpenSpec.upto fnExactGoodPathSpec)

/-- 'laws.FnExactIsGoodPath', WHERE WHAT IT READS IS OF BULK AT MOST 1048576: true; the input reads as it did. -/
def fnExactIsGoodPathUptoRow : OpenClaim := { program := "ytmodkllhdeknoab", sum := "684745872c590315e9c678860773551b7cf5848561b0e57d730c8c5ab9b10227", func := "loop.example/g01215/laws.FnExactIsGoodPath", spec := "fnExactIsGoodPath", unfollowed := true, recurses := true, apart := false, narrowed := true }
def FnExactIsGoodPathUptoSaid : Prop := fnExactIsGoodPathUptoRow.holds Try.pinned (OpenSpec.upto fnExactIsGoodPathSpec)

/-- 'laws.FnExactBoundsAlong', WHERE WHAT IT READS IS OF BULK AT MOST 1048576: true; the input reads as it did. -/
def fnExactBoundsAlongUptoRow : OpenClaim := { program := "ytmodkllhdeknoab", sum := "684745872c590315e9c678860773551b7cf5848561b0e57d730c8c5ab9b10227", func := "loop.example/g01215/laws.FnExactBoundsAlong", spec := "fnExactBoundsAlong", unfollowed := true, recurses := true, apart := false, narrowed := true }
def FnExactBoundsAlongUptoSaid : Prop := fnExactBoundsAlongUptoRow.holds Try.pinned (OpenSpec.upto fnExactBoundsAlongSpec)

/-- 'laws.FnExactMostPoured', WHERE WHAT IT READS IS OF BULK AT MOST 1048576: true; the input reads as it did. -/
def fnExactMostPouredUptoRow : OpenClaim := { program := "ytmodkllhdeknoab", sum := "684745872c590315e9c678860773551b7cf5848561b0e57d730c8c5ab9b10227", func := "loop.example/g01215/laws.FnExactMostPoured", spec := "fnExactMostPoured", unfollowed := true, recurses := true, apart := false, narrowed := true }
def FnExactMostPouredUptoSaid : Prop := fnExactMostPouredUptoRow.holds Try.pinned (OpenSpec.upto fnExactMostPouredSpec)

end Rows
end Go.Proofs.Ytmodkllhdeknoab
