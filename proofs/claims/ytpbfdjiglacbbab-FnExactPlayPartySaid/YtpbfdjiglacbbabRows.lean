/-
  No cell of these rows narrows 'for every input' (looked for: loops, veiled, ifaces, maps, wideKeys, modest, calm, conditions, laid).
  DERIVED. THE GIVEN ROWS OF THIS SEAT. 5 by the template 'for every input the law returns true; each argument reads behind the call as it read before'; 0 by the template 'total and deterministic' (their statements: YtpbfdjiglacbbabTotals.lean).
  GIVEN WITH THE SEED: the statements are not yours to turn. If you find one false, say at which input.
  Laid BY PROGRAM, IN A SANDBOX (cutbox-rows.mjs): the forced cells as the released guide's own fill.sh prints them over the translation 31210098c1228dd9… (all of the seat's roots in one cut). By AI agents, Wed Nov 11 2026. No macro, syntax, notation, axiom, sorry.
-/
import Derived.Test.YtpbfdjiglacbbabChecked
import GoSem.Claim
import GoSem.ClaimJoined
import GoSem.ClaimMapViews
import Derived.JoinedTies
import Derived.KernelRfl
namespace Go.Proofs.Ytpbfdjiglacbbab
/- THE CELL 'sum', in the pinned program and in every row, IS THE sha256 OF THE DUMP (.gsa) THAT YtpbfdjiglacbbabProg.lean LOADS. Nothing in Lean hashes anything: it is a label: what it is worth is what the hold of that sum in a sandbox is worth. -/
noncomputable def Try.pinned : Pinned := { name := "ytpbfdjiglacbbab", sum := "31210098c1228dd98c1599bec0f2a10d11590c39c43bb8788925958575c21336", checked := Try.checked }
namespace Rows
def none {H : Type} : Left H := { results := [], args := [] }

/-- 'laws.FnExactIsLost': WHATEVER THE INPUT: true; the input reads as it did. -/
def fnExactIsLostSpec : ChangeSpec := { name := "fnExactIsLost", fn := fun _ => fun
  | [d] => { results := [.lit (.bool true)], args := [d] }
  | _ => none }
def fnExactIsLostRow : OpenClaim := { program := "ytpbfdjiglacbbab", sum := "31210098c1228dd98c1599bec0f2a10d11590c39c43bb8788925958575c21336", func := "loop.example/g01215/laws.FnExactIsLost", spec := "fnExactIsLost", unfollowed := true, recurses := true, apart := false }
def FnExactIsLostSaid : Prop := fnExactIsLostRow.holds Try.pinned (OpenSpec.ofChange fnExactIsLostSpec)

/-- ITS FALSE NEIGHBOUR: 'it returns false'. Refute it at one input. -/
def fnExactIsLostWrong : ChangeSpec := { name := "fnExactIsLost", fn := fun _ => fun
  | [d] => { results := [.lit (.bool false)], args := [d] }
  | _ => none }
def FnExactIsLostWrongFalsely : Prop := fnExactIsLostRow.holds Try.pinned (OpenSpec.ofChange fnExactIsLostWrong)

/-- 'laws.FnExactCompleteTubes': WHATEVER THE INPUT: true; the input reads as it did. -/
def fnExactCompleteTubesSpec : ChangeSpec := { name := "fnExactCompleteTubes", fn := fun _ => fun
  | [d] => { results := [.lit (.bool true)], args := [d] }
  | _ => none }
def fnExactCompleteTubesRow : OpenClaim := { program := "ytpbfdjiglacbbab", sum := "31210098c1228dd98c1599bec0f2a10d11590c39c43bb8788925958575c21336", func := "loop.example/g01215/laws.FnExactCompleteTubes", spec := "fnExactCompleteTubes", unfollowed := true, recurses := true, apart := false }
def FnExactCompleteTubesSaid : Prop := fnExactCompleteTubesRow.holds Try.pinned (OpenSpec.ofChange fnExactCompleteTubesSpec)

/-- ITS FALSE NEIGHBOUR: 'it returns false'. Refute it at one input. -/
def fnExactCompleteTubesWrong : ChangeSpec := { name := "fnExactCompleteTubes", fn := fun _ => fun
  | [d] => { results := [.lit (.bool false)], args := [d] }
  | _ => none }
def FnExactCompleteTubesWrongFalsely : Prop := fnExactCompleteTubesRow.holds Try.pinned (OpenSpec.ofChange fnExactCompleteTubesWrong)

/-- 'laws.FnExactPlayParty': WHATEVER THE INPUT: true; the input reads as it did. -/
def fnExactPlayPartySpec : ChangeSpec := { name := "fnExactPlayParty", fn := fun _ => fun
  | [d1, d2] => { results := [.lit (.bool true)], args := [d1, d2] }
  | _ => none }
def fnExactPlayPartyRow : OpenClaim := { program := "ytpbfdjiglacbbab", sum := "31210098c1228dd98c1599bec0f2a10d11590c39c43bb8788925958575c21336", func := "loop.example/g01215/laws.FnExactPlayParty", spec := "fnExactPlayParty", unfollowed := true, recurses := true, apart := false }
def FnExactPlayPartySaid : Prop := fnExactPlayPartyRow.holds Try.pinned (OpenSpec.ofChange fnExactPlayPartySpec)

/-- ITS FALSE NEIGHBOUR: 'it returns false'. Refute it at one input. -/
def fnExactPlayPartyWrong : ChangeSpec := { name := "fnExactPlayParty", fn := fun _ => fun
  | [d1, d2] => { results := [.lit (.bool false)], args := [d1, d2] }
  | _ => none }
def FnExactPlayPartyWrongFalsely : Prop := fnExactPlayPartyRow.holds Try.pinned (OpenSpec.ofChange fnExactPlayPartyWrong)

/-- 'laws.FnExactCanHurt': WHATEVER THE INPUT: true; the input reads as it did. -/
def fnExactCanHurtSpec : ChangeSpec := { name := "fnExactCanHurt", fn := fun _ => fun
  | [d] => { results := [.lit (.bool true)], args := [d] }
  | _ => none }
def fnExactCanHurtRow : OpenClaim := { program := "ytpbfdjiglacbbab", sum := "31210098c1228dd98c1599bec0f2a10d11590c39c43bb8788925958575c21336", func := "loop.example/g01215/laws.FnExactCanHurt", spec := "fnExactCanHurt", unfollowed := true, recurses := true, apart := false }
def FnExactCanHurtSaid : Prop := fnExactCanHurtRow.holds Try.pinned (OpenSpec.ofChange fnExactCanHurtSpec)

/-- ITS FALSE NEIGHBOUR: 'it returns false'. Refute it at one input. -/
def fnExactCanHurtWrong : ChangeSpec := { name := "fnExactCanHurt", fn := fun _ => fun
  | [d] => { results := [.lit (.bool false)], args := [d] }
  | _ => none }
def FnExactCanHurtWrongFalsely : Prop := fnExactCanHurtRow.holds Try.pinned (OpenSpec.ofChange fnExactCanHurtWrong)

/-- 'laws.FnExactCountReplies': WHATEVER THE INPUT: true; the input reads as it did. -/
def fnExactCountRepliesSpec : ChangeSpec := { name := "fnExactCountReplies", fn := fun _ => fun
  | [d] => { results := [.lit (.bool true)], args := [d] }
  | _ => none }
def fnExactCountRepliesRow : OpenClaim := { program := "ytpbfdjiglacbbab", sum := "31210098c1228dd98c1599bec0f2a10d11590c39c43bb8788925958575c21336", func := "loop.example/g01215/laws.FnExactCountReplies", spec := "fnExactCountReplies", unfollowed := true, recurses := true, apart := false }
def FnExactCountRepliesSaid : Prop := fnExactCountRepliesRow.holds Try.pinned (OpenSpec.ofChange fnExactCountRepliesSpec)

/-- ITS FALSE NEIGHBOUR: 'it returns false'. Refute it at one input. -/
def fnExactCountRepliesWrong : ChangeSpec := { name := "fnExactCountReplies", fn := fun _ => fun
  | [d] => { results := [.lit (.bool false)], args := [d] }
  | _ => none }
def FnExactCountRepliesWrongFalsely : Prop := fnExactCountRepliesRow.holds Try.pinned (OpenSpec.ofChange fnExactCountRepliesWrong)

/- THE SECOND FORM. 'bulk': how many values and letters a reading holds, each counted each time it is reached (what is shared counts as often as it is met; a slice's spare places count too). A statement '..UptoSaid' is the law's where the arguments, and the package variables that the reading takes, are together of bulk at most 1048576: NARROWER than '..Said'. Prove '..Said' where nothing that the law and all that it calls make is longer than what came in: it says more and counts as full. Else prove '..UptoSaid'. A law counts once. -/
mutual
def uptoBulk {H : Type} : DataW H → Nat
  | .lit (.string bytes) => bytes.length + 1
  | .lit _ => 1
  | .nil => 1
  | .ptr d => uptoBulk d + 1
  | .slice elems spare => uptoBulkAll elems + uptoBulkAll spare + 1
  | .agg parts => uptoBulkAll parts + 1
  | .iface _ d => uptoBulk d + 1
  | .map entries => uptoBulkEntries entries + 1
  | .held _ => 1
def uptoBulkAll {H : Type} : List (DataW H) → Nat
  | [] => 0
  | d :: r => uptoBulk d + uptoBulkAll r
def uptoBulkEntries {H : Type} : List (Lit × DataW H) → Nat
  | [] => 0
  | x :: r => uptoBulkEntry x + uptoBulkEntries r
def uptoBulkEntry {H : Type} : Lit × DataW H → Nat
  | (.string bytes, d) => bytes.length + uptoBulk d + 1
  | (_, d) => uptoBulk d + 1
 end
def uptoSmall : (H : Type) → List (DataW H) → Bool := fun _ ds => decide (uptoBulkAll ds ≤ 1048576)
def OpenSpec.upto (s : _root_.Go.ChangeSpec) : _root_.Go.OpenSpec := { _root_.Go.OpenSpec.ofChange s with cond := some uptoSmall }

/-- 'laws.FnExactIsLost', WHERE WHAT IT READS IS OF BULK AT MOST 1048576: true; the input reads as it did. -/
def fnExactIsLostUptoRow : OpenClaim := { program := "ytpbfdjiglacbbab", sum := "31210098c1228dd98c1599bec0f2a10d11590c39c43bb8788925958575c21336", func := "loop.example/g01215/laws.FnExactIsLost", spec := "fnExactIsLost", unfollowed := true, recurses := true, apart := false, narrowed := true }
def FnExactIsLostUptoSaid : Prop := fnExactIsLostUptoRow.holds Try.pinned (OpenSpec.upto fnExactIsLostSpec)

/-- 'laws.FnExactCompleteTubes', WHERE WHAT IT READS IS OF BULK AT MOST 1048576: true; the input reads as it did. -/
def fnExactCompleteTubesUptoRow : OpenClaim := { program := "ytpbfdjiglacbbab", sum := "31210098c1228dd98c1599bec0f2a10d11590c39c43bb8788925958575c21336", func := "loop.example/g01215/laws.FnExactCompleteTubes", spec := "fnExactCompleteTubes", unfollowed := true, recurses := true, apart := false, narrowed := true }
def FnExactCompleteTubesUptoSaid : Prop := fnExactCompleteTubesUptoRow.holds Try.pinned (OpenSpec.upto fnExactCompleteTubesSpec)

/-- 'laws.FnExactPlayParty', WHERE WHAT IT READS IS OF BULK AT MOST 1048576: true; the input reads as it did. -/
def fnExactPlayPartyUptoRow : OpenClaim := { program := "ytpbfdjiglacbbab", sum := "31210098c1228dd98c1599bec0f2a10d11590c39c43bb8788925958575c21336", func := "loop.example/g01215/laws.FnExactPlayParty", spec := "fnExactPlayParty", unfollowed := true, recurses := true, apart := false, narrowed := true }
def FnExactPlayPartyUptoSaid : Prop := fnExactPlayPartyUptoRow.holds Try.pinned (OpenSpec.upto fnExactPlayPartySpec)

/-- 'laws.FnExactCanHurt', WHERE WHAT IT READS IS OF BULK AT MOST 1048576: true; the input reads as it did. -/
def fnExactCanHurtUptoRow : OpenClaim := { program := "ytpbfdjiglacbbab", sum := "31210098c1228dd98c1599bec0f2a10d11590c39c43bb8788925958575c21336", func := "loop.example/g01215/laws.FnExactCanHurt", spec := "fnExactCanHurt", unfollowed := true, recurses := true, apart := false, narrowed := true }
def FnExactCanHurtUptoSaid : Prop := fnExactCanHurtUptoRow.holds Try.pinned (OpenSpec.upto fnExactCanHurtSpec)

/-- 'laws.FnExactCountReplies', WHERE WHAT IT READS IS OF BULK AT MOST 1048576: true; the input reads as it did. -/
def fnExactCountRepliesUptoRow : OpenClaim := { program := "ytpbfdjiglacbbab", sum := "31210098c1228dd98c1599bec0f2a10d11590c39c43bb8788925958575c21336", func := "loop.example/g01215/laws.FnExactCountReplies", spec := "fnExactCountReplies", unfollowed := true, recurses := true, apart := false, narrowed := true }
def FnExactCountRepliesUptoSaid : Prop := fnExactCountRepliesUptoRow.holds Try.pinned (OpenSpec.upto fnExactCountRepliesSpec)

end Rows
end Go.Proofs.Ytpbfdjiglacbbab
