/-
  No cell of these rows narrows 'for every input' (looked for: loops, veiled, ifaces, maps, wideKeys, modest, calm, conditions, laid).
  DERIVED. THE GIVEN ROWS OF THIS SEAT. 6 by the template 'for every input the law returns true; each argument reads behind the call as it read before'; 0 by the template 'total and deterministic' (their statements: YtjbphpjmpjkclabTotals.lean).
  GIVEN WITH THE SEED: the statements are not yours to turn. If you find one false, say at which input.
  Laid BY PROGRAM, IN A SANDBOX (cutbox-rows.mjs): the forced cells as the released guide's own fill.sh prints them over the translation bf9ebd6611c1ab96… (all of the seat's roots in one cut). By AI agents, Wed Nov 11 2026. No macro, syntax, notation, axiom, sorry.
-/
import Derived.Test.YtjbphpjmpjkclabChecked
import GoSem.Claim
import GoSem.ClaimJoined
import GoSem.ClaimMapViews
import Derived.JoinedTies
import Derived.KernelRfl
namespace Go.Proofs.Ytjbphpjmpjkclab
/- THE CELL 'sum', in the pinned program and in every row, IS THE sha256 OF THE DUMP (.gsa) THAT YtjbphpjmpjkclabProg.lean LOADS. Nothing in Lean hashes anything: it is a label: what it is worth is what the hold of that sum in a sandbox is worth. -/
noncomputable def Try.pinned : Pinned := { name := "ytjbphpjmpjkclab", sum := "bf9ebd6611c1ab96ee7d86f0173ee75ccc4c94b79b17c3abb0f73d1b4992c64d", checked := Try.checked }
namespace Rows
def none {H : Type} : Left H := { results := [], args := [] }

/-- 'laws.FnExactOrderTo': WHATEVER THE INPUT: true; the input reads as it did. -/
def fnExactOrderToSpec : ChangeSpec := { name := "fnExactOrderTo", fn := fun _ => fun
  | [d1, d2] => { results := [.lit (.bool true)], args := [d1, d2] }
  | _ => none }
def fnExactOrderToRow : OpenClaim := { program := "ytjbphpjmpjkclab", sum := "bf9ebd6611c1ab96ee7d86f0173ee75ccc4c94b79b17c3abb0f73d1b4992c64d", func := "loop.example/g01215/laws.FnExactOrderTo", spec := "fnExactOrderTo", unfollowed := true, recurses := true, plainKeys := false, apart := false }
def FnExactOrderToSaid : Prop := fnExactOrderToRow.holds Try.pinned (OpenSpec.ofChange fnExactOrderToSpec)

/-- ITS FALSE NEIGHBOUR: 'it returns false'. Refute it at one input. -/
def fnExactOrderToWrong : ChangeSpec := { name := "fnExactOrderTo", fn := fun _ => fun
  | [d1, d2] => { results := [.lit (.bool false)], args := [d1, d2] }
  | _ => none }
def FnExactOrderToWrongFalsely : Prop := fnExactOrderToRow.holds Try.pinned (OpenSpec.ofChange fnExactOrderToWrong)

/-- 'laws.FnExactCountOrders': WHATEVER THE INPUT: true; the input reads as it did. -/
def fnExactCountOrdersSpec : ChangeSpec := { name := "fnExactCountOrders", fn := fun _ => fun
  | [d] => { results := [.lit (.bool true)], args := [d] }
  | _ => none }
def fnExactCountOrdersRow : OpenClaim := { program := "ytjbphpjmpjkclab", sum := "bf9ebd6611c1ab96ee7d86f0173ee75ccc4c94b79b17c3abb0f73d1b4992c64d", func := "loop.example/g01215/laws.FnExactCountOrders", spec := "fnExactCountOrders", unfollowed := true, recurses := true, plainKeys := false, apart := false }
def FnExactCountOrdersSaid : Prop := fnExactCountOrdersRow.holds Try.pinned (OpenSpec.ofChange fnExactCountOrdersSpec)

/-- ITS FALSE NEIGHBOUR: 'it returns false'. Refute it at one input. -/
def fnExactCountOrdersWrong : ChangeSpec := { name := "fnExactCountOrders", fn := fun _ => fun
  | [d] => { results := [.lit (.bool false)], args := [d] }
  | _ => none }
def FnExactCountOrdersWrongFalsely : Prop := fnExactCountOrdersRow.holds Try.pinned (OpenSpec.ofChange fnExactCountOrdersWrong)

/-- 'laws.FnExactAreAlike': WHATEVER THE INPUT: true; the input reads as it did. -/
def fnExactAreAlikeSpec : ChangeSpec := { name := "fnExactAreAlike", fn := fun _ => fun
  | [d1, d2] => { results := [.lit (.bool true)], args := [d1, d2] }
  | _ => none }
def fnExactAreAlikeRow : OpenClaim := { program := "ytjbphpjmpjkclab", sum := "bf9ebd6611c1ab96ee7d86f0173ee75ccc4c94b79b17c3abb0f73d1b4992c64d", func := "loop.example/g01215/laws.FnExactAreAlike", spec := "fnExactAreAlike", unfollowed := true, recurses := true, plainKeys := false, apart := false }
def FnExactAreAlikeSaid : Prop := fnExactAreAlikeRow.holds Try.pinned (OpenSpec.ofChange fnExactAreAlikeSpec)

/-- ITS FALSE NEIGHBOUR: 'it returns false'. Refute it at one input. -/
def fnExactAreAlikeWrong : ChangeSpec := { name := "fnExactAreAlike", fn := fun _ => fun
  | [d1, d2] => { results := [.lit (.bool false)], args := [d1, d2] }
  | _ => none }
def FnExactAreAlikeWrongFalsely : Prop := fnExactAreAlikeRow.holds Try.pinned (OpenSpec.ofChange fnExactAreAlikeWrong)

/-- 'laws.FnExactRenamingTo': WHATEVER THE INPUT: true; the input reads as it did. -/
def fnExactRenamingToSpec : ChangeSpec := { name := "fnExactRenamingTo", fn := fun _ => fun
  | [d1, d2] => { results := [.lit (.bool true)], args := [d1, d2] }
  | _ => none }
def fnExactRenamingToRow : OpenClaim := { program := "ytjbphpjmpjkclab", sum := "bf9ebd6611c1ab96ee7d86f0173ee75ccc4c94b79b17c3abb0f73d1b4992c64d", func := "loop.example/g01215/laws.FnExactRenamingTo", spec := "fnExactRenamingTo", unfollowed := true, recurses := true, plainKeys := false, apart := false }
def FnExactRenamingToSaid : Prop := fnExactRenamingToRow.holds Try.pinned (OpenSpec.ofChange fnExactRenamingToSpec)

/-- ITS FALSE NEIGHBOUR: 'it returns false'. Refute it at one input. -/
def fnExactRenamingToWrong : ChangeSpec := { name := "fnExactRenamingTo", fn := fun _ => fun
  | [d1, d2] => { results := [.lit (.bool false)], args := [d1, d2] }
  | _ => none }
def FnExactRenamingToWrongFalsely : Prop := fnExactRenamingToRow.holds Try.pinned (OpenSpec.ofChange fnExactRenamingToWrong)

/-- 'laws.FnExactCountRenamings': WHATEVER THE INPUT: true; the input reads as it did. -/
def fnExactCountRenamingsSpec : ChangeSpec := { name := "fnExactCountRenamings", fn := fun _ => fun
  | [d] => { results := [.lit (.bool true)], args := [d] }
  | _ => none }
def fnExactCountRenamingsRow : OpenClaim := { program := "ytjbphpjmpjkclab", sum := "bf9ebd6611c1ab96ee7d86f0173ee75ccc4c94b79b17c3abb0f73d1b4992c64d", func := "loop.example/g01215/laws.FnExactCountRenamings", spec := "fnExactCountRenamings", unfollowed := true, recurses := true, plainKeys := false, apart := false }
def FnExactCountRenamingsSaid : Prop := fnExactCountRenamingsRow.holds Try.pinned (OpenSpec.ofChange fnExactCountRenamingsSpec)

/-- ITS FALSE NEIGHBOUR: 'it returns false'. Refute it at one input. -/
def fnExactCountRenamingsWrong : ChangeSpec := { name := "fnExactCountRenamings", fn := fun _ => fun
  | [d] => { results := [.lit (.bool false)], args := [d] }
  | _ => none }
def FnExactCountRenamingsWrongFalsely : Prop := fnExactCountRenamingsRow.holds Try.pinned (OpenSpec.ofChange fnExactCountRenamingsWrong)

/-- 'laws.FnExactFirstForm': WHATEVER THE INPUT: true; the input reads as it did. -/
def fnExactFirstFormSpec : ChangeSpec := { name := "fnExactFirstForm", fn := fun _ => fun
  | [d] => { results := [.lit (.bool true)], args := [d] }
  | _ => none }
def fnExactFirstFormRow : OpenClaim := { program := "ytjbphpjmpjkclab", sum := "bf9ebd6611c1ab96ee7d86f0173ee75ccc4c94b79b17c3abb0f73d1b4992c64d", func := "loop.example/g01215/laws.FnExactFirstForm", spec := "fnExactFirstForm", unfollowed := true, recurses := true, plainKeys := false, apart := false }
def FnExactFirstFormSaid : Prop := fnExactFirstFormRow.holds Try.pinned (OpenSpec.ofChange fnExactFirstFormSpec)

/-- ITS FALSE NEIGHBOUR: 'it returns false'. Refute it at one input. -/
def fnExactFirstFormWrong : ChangeSpec := { name := "fnExactFirstForm", fn := fun _ => fun
  | [d] => { results := [.lit (.bool false)], args := [d] }
  | _ => none }
def FnExactFirstFormWrongFalsely : Prop := fnExactFirstFormRow.holds Try.pinned (OpenSpec.ofChange fnExactFirstFormWrong)

/- THE SECOND FORM. 'bulk': how many values and letters a reading holds, each counted each time it is reached (what is shared counts as often as it is met; a slice's spare places count too). A statement '..UptoSaid' is the law's where the arguments, and the package variables that the reading takes, are together of bulk at most 1048576: NARROWER than '..Said'. Prove '..Said' where nothing that the law and all that it calls make is longer than what came in: it says more and counts as full. Else prove '..UptoSaid'. A law counts once. -/
mutual
def uptoBulk {H : Type} : DataW H → Nat
  | .lit (.string bytes) => bytes.length + 1
  | .lit _ => 1
  | .nil => 1
  | .ptr d => uptoBulk d + 1
  | .slice elems spare => uptoBulkAll elems + uptoBulkAll spare + 1
  | .agg parts => uptoBulkAll parts + 1
  | .iface _ d => uptoBulk d + 1
  | .map entries => uptoBulkEntries entries + 1
  | .held _ => 1
def uptoBulkAll {H : Type} : List (DataW H) → Nat
  | [] => 0
  | d :: r => uptoBulk d + uptoBulkAll r
def uptoBulkEntries {H : Type} : List (Lit × DataW H) → Nat
  | [] => 0
  | x :: r => uptoBulkEntry x + uptoBulkEntries r
def uptoBulkEntry {H : Type} : Lit × DataW H → Nat
  | (.string bytes, d) => bytes.length + uptoBulk d + 1
  | (_, d) => uptoBulk d + 1
 end
def uptoSmall : (H : Type) → List (DataW H) → Bool := fun _ ds => decide (uptoBulkAll ds ≤ 1048576)
def OpenSpec.upto (s : _root_.Go.ChangeSpec) : _root_.Go.OpenSpec := { _root_.Go.OpenSpec.ofChange s with cond := some uptoSmall }

/-- 'laws.FnExactOrderTo', WHERE WHAT IT READS IS OF BULK AT MOST 1048576: true; the input reads as it did. -/
def fnExactOrderToUptoRow : OpenClaim := { program := "ytjbphpjmpjkclab", sum := "bf9ebd6611c1ab96ee7d86f0173ee75ccc4c94b79b17c3abb0f73d1b4992c64d", func := "loop.example/g01215/laws.FnExactOrderTo", spec := "fnExactOrderTo", unfollowed := true, recurses := true, plainKeys := false, apart := false, narrowed := true }
def FnExactOrderToUptoSaid : Prop := fnExactOrderToUptoRow.holds Try.pinned (OpenSpec.upto fnExactOrderToSpec)

/-- 'laws.FnExactCountOrders', WHERE WHAT IT READS IS OF BULK AT MOST 1048576: true; the input reads as it did. -/
def fnExactCountOrdersUptoRow : OpenClaim := { program := "ytjbphpjmpjkclab", sum := "bf9ebd6611c1ab96ee7d86f0173ee75ccc4c94b79b17c3abb0f73d1b4992c64d", func := "loop.example/g01215/laws.FnExactCountOrders", spec := "fnExactCountOrders", unfollowed := true, recurses := true, plainKeys := false, apart := false, narrowed := true }
def FnExactCountOrdersUptoSaid : Prop := fnExactCountOrdersUptoRow.holds Try.pinned (OpenSpec.upto fnExactCountOrdersSpec)

/-- 'laws.FnExactAreAlike', WHERE WHAT IT READS IS OF BULK AT MOST 1048576: true; the input reads as it did. -/
def fnExactAreAlikeUptoRow : OpenClaim := { program := "ytjbphpjmpjkclab", sum := "bf9ebd6611c1ab96ee7d86f0173ee75ccc4c94b79b17c3abb0f73d1b4992c64d", func := "loop.example/g01215/laws.FnExactAreAlike", spec := "fnExactAreAlike", unfollowed := true, recurses := true, plainKeys := false, apart := false, narrowed := true }
def FnExactAreAlikeUptoSaid : Prop := fnExactAreAlikeUptoRow.holds Try.pinned (OpenSpec.upto fnExactAreAlikeSpec)

/-- 'laws.FnExactRenamingTo', WHERE WHAT IT READS IS OF BULK AT MOST 1048576: true; the input reads as it did. -/
def fnExactRenamingToUptoRow : OpenClaim := { program := "ytjbphpjmpjkclab", sum := "bf9ebd6611c1ab96ee7d86f0173ee75ccc4c94b79b17c3abb0f73d1b4992c64d", func := "loop.example/g01215/laws.FnExactRenamingTo", spec := "fnExactRenamingTo", unfollowed := true, recurses := true, plainKeys := false, apart := false, narrowed := true }
def FnExactRenamingToUptoSaid : Prop := fnExactRenamingToUptoRow.holds Try.pinned (OpenSpec.upto fnExactRenamingToSpec)

/-- 'laws.FnExactCountRenamings', WHERE WHAT IT READS IS OF BULK AT MOST 1048576: true; the input reads as it did. -/
def fnExactCountRenamingsUptoRow : OpenClaim := { program := "ytjbphpjmpjkclab", sum := "bf9ebd6611c1ab96ee7d86f0173ee75ccc4c94b79b17c3abb0f73d1b4992c64d", func := "loop.example/g01215/laws.FnExactCountRenamings", spec := "fnExactCountRenamings", unfollowed := true, recurses := true, plainKeys := false, apart := false, narrowed := true }
def FnExactCountRenamingsUptoSaid : Prop := fnExactCountRenamingsUptoRow.holds Try.pinned (OpenSpec.upto fnExactCountRenamingsSpec)

/-- 'laws.FnExactFirstForm', WHERE WHAT IT READS IS OF BULK AT MOST 1048576: true; the input reads as it did. -/
def fnExactFirstFormUptoRow : OpenClaim := { program := "ytjbphpjmpjkclab", sum := "bf9ebd6611c1ab96ee7d86f0173ee75ccc4c94b79b17c3abb0f73d1b4992c64d", func := "loop.example/g01215/laws.FnExactFirstForm", spec := "fnExactFirstForm", unfollowed := true, recurses := true, plainKeys := false, apart := false, narrowed := true }
def FnExactFirstFormUptoSaid : Prop := fnExactFirstFormUptoRow.holds Try.pinned (OpenSpec.upto fnExactFirstFormSpec)

end Rows
end Go.Proofs.Ytjbphpjmpjkclab
