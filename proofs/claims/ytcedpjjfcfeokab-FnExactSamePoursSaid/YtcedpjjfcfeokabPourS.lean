/-
  The model's pour, walked.
-/
import Derived.Test.YtcedpjjfcfeokabCanZ
import Derived.Test.YtcedpjjfcfeokabRackOps
import Derived.Test.YtcedpjjfcfeokabPourM
namespace Go.Proofs.Ytcedpjjfcfeokab.base
open Go.ChangeShapes Go.WideShapes Go.ChangeAt Go.RowKit
set_option linter.unusedVariables false
set_option linter.unusedSimpArgs false

theorem l1Least_any (a b : Int) (w : World) :
    Calls Try.prog 45 #[.int .i64 a, .int .i64 b] w fun e w' => e = .returned (.int .i64 (min a b)) ∧ w = w' := by
  by_cases h : a < b
  · have e : min a b = a := by omega
    rw [e]
    clear e
    go_enter Try.func45, Try.ntmps45
    go_wp2_with fail
    go_ret
    exact ⟨rfl, rfl⟩
  · have e : min a b = b := by omega
    have q : decide (a < b) = false := by simpa using h
    rw [e]
    clear e h
    go_enter Try.func45, Try.ntmps45
    go_wp2_with fail
    go_ret
    exact ⟨rfl, rfl⟩

def pourR (ns : List Int) (i j : Int) : List Int := if pourOk ns i j = true then pourT ns i.toNat j.toNat else z24
def pourA (ns : List Int) (i j : Int) : Int := if pourOk ns i j = true then (canN (tub ns i.toNat) (tub ns j.toNat) : Nat) else 0
theorem pourOk_not {ns : List Int} {i j : Int} (h : twoOk ns i j = false) : pourOk ns i j = false := by unfold pourOk; rw [h]; rfl
theorem pourR_len {ns : List Int} (h : ns.length = 24) (i j : Int) : (pourR ns i j).length = 24 := by
  unfold pourR
  by_cases hb : pourOk ns i j = true
  · rw [if_pos hb]
    unfold pourOk at hb
    simp only [Bool.and_eq_true, decide_eq_true_eq] at hb
    obtain ⟨hv, p, q, rfl, rfl, hp, hq, hne⟩ := twoOk_of hb.1
    have hc := hb.2
    simp only [Int.toNat_natCast] at hc ⊢
    have sp := tub_len ns p h hp
    have sq := tub_len ns q h hq
    have vp := vR_tub hv p hp
    have vq := vR_tub hv q hq
    have hC := canN_le sp sq vp vq
    exact two_len h hp hq (fromK_facts sp vp _ hC.1).2.2 (toK_facts sq vq _ (hC.2.2 hc) _ hC.2.1).2.2
  · rw [if_neg hb]; rfl

end Go.Proofs.Ytcedpjjfcfeokab.base
