/-
  What a rule does, as a value behind the interface, walked.
-/
import Derived.Test.YtcedpjjfcfeokabMovI
import Derived.Test.YtcedpjjfcfeokabDepIZ
import Derived.Test.YtcedpjjfcfeokabBlkW
namespace Go.Proofs.Ytcedpjjfcfeokab.base
open Go.ChangeShapes Go.WideShapes Go.ChangeAt Go.RowKit
set_option linter.unusedVariables false
set_option linter.unusedSimpArgs false

/-- The rule's own value, behind the interface. -/
def mvrV (x : Int) : Value :=
  if x = 1 then .iface 114 (.agg #[]) else if x = 2 then .iface 115 (.agg #[])
  else if x = 3 then .iface 116 (.agg #[]) else if x = 4 then .iface 117 (.agg #[]) else .nilIface
theorem rule_cases {x : Int} (h : ruleV x = true) : x = 1 ∨ x = 2 ∨ x = 3 ∨ x = 4 := by
  have := of_decide_eq_true h
  omega
set_option maxHeartbeats 800000 in
theorem moverOf_any (x : Int) (w : World) :
    Calls Try.prog 62 #[.int .i64 x] w fun e w' => e = .returned (.tuple #[mvrV x, .bool (ruleV x)]) ∧ Kept w w' := by
  have HB := Lib.hid (kept_refl w)
  by_cases hr : ruleV x = true
  · rcases rule_cases hr with rfl | rfl | rfl | rfl
    all_goals
      go_enter Try.func62, Try.ntmps62
      go_wp2_with fail
      go_ret2
      exact ⟨rfl, HB.out.alloc _⟩
  · have hf : ruleV x = false := by simpa using hr
    have E := Lib.hid (show mvrV x = .nilIface by
      have : ¬ (1 ≤ x ∧ x ≤ 4) := fun h => hr (decide_eq_true h)
      unfold mvrV
      rw [if_neg (by omega), if_neg (by omega), if_neg (by omega), if_neg (by omega)])
    have V := Lib.hid hf
    have : ¬ (1 ≤ x ∧ x ≤ 4) := fun h => hr (decide_eq_true h)
    clear hf hr
    go_enter Try.func62, Try.ntmps62
    by_cases h1 : x < 1
    · have q1 : decide (x < 1) = true := decide_eq_true h1
      clear h1 this
      go_wp2_with fail
      go_ret2
      exact ⟨by rw [E.out, V.out]; rfl, HB.out⟩
    · have q1 : decide (x < 1) = false := decide_eq_false h1
      have q2 : decide (x > 4) = true := decide_eq_true (by omega)
      have q3 : decide (4 < x) = true := decide_eq_true (by omega)
      clear h1 this
      go_wp2_with fail
      go_ret2
      exact ⟨by rw [E.out, V.out]; rfl, HB.out⟩
end Go.Proofs.Ytcedpjjfcfeokab.base
