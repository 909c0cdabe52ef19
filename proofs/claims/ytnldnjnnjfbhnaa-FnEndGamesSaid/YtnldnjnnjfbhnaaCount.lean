/-
  How many layers have each color, on both sides, walked.
-/
import Derived.Test.YtnldnjnnjfbhnaaDoors
import Derived.Test.YtnldnjnnjfbhnaaRackTo
namespace Go.Proofs.Ytnldnjnnjfbhnaa.base
open Go.ChangeShapes Go.WideShapes Go.ChangeAt Go.RowKit
set_option linter.unusedVariables false
set_option linter.unusedSimpArgs false

def z6 : List Int := [0, 0, 0, 0, 0, 0]
def bump (cs : List Int) (c : Nat) : List Int := cs.set c (cs.getD c 0 + 1)
def cntUp (ns : List Int) (k : Nat) : List Int := (ns.take k).foldl (fun cs x => bump cs x.toNat) z6
theorem cntUp_step (ns : List Int) (k : Nat) (h : k < ns.length) : cntUp ns (k + 1) = bump (cntUp ns k) (ns.getD k 0).toNat := by
  unfold cntUp
  rw [List.take_succ_eq_append_getElem h, List.foldl_append, List.getD_eq_getElem?_getD, List.getElem?_eq_getElem h]; rfl
theorem bump_len (cs : List Int) (c : Nat) : (bump cs c).length = cs.length := by unfold bump; rw [List.length_set]
theorem cnt_all (ns : List Int) (k : Nat) : (cntUp ns k).length = 6 ∧ ∀ c, 0 ≤ (cntUp ns k).getD c 0 ∧ (cntUp ns k).getD c 0 ≤ k := by
  unfold cntUp
  suffices ∀ (l : List Int) (cs : List Int) (n : Nat), cs.length = 6 → (∀ c, 0 ≤ cs.getD c 0 ∧ cs.getD c 0 ≤ n) →
      (l.foldl (fun cs x => bump cs x.toNat) cs).length = 6 ∧ ∀ c, 0 ≤ (l.foldl (fun cs x => bump cs x.toNat) cs).getD c 0 ∧ (l.foldl (fun cs x => bump cs x.toNat) cs).getD c 0 ≤ ((n + l.length : Nat) : Int) by
    have h := this (ns.take k) z6 0 rfl (fun c => by
      unfold z6
      rcases c with _ | _ | _ | _ | _ | _ | c <;> simp)
    refine ⟨h.1, fun c => ⟨(h.2 c).1, ?_⟩⟩
    have := (h.2 c).2
    have hl : (ns.take k).length ≤ k := by rw [List.length_take]; omega
    omega
  intro l
  induction l with
  | nil => intro cs n h1 h2; exact ⟨h1, fun c => ⟨(h2 c).1, by have := (h2 c).2; simpa using this⟩⟩
  | cons x r ih =>
    intro cs n h1 h2
    have hb : ∀ c, 0 ≤ (bump cs x.toNat).getD c 0 ∧ (bump cs x.toNat).getD c 0 ≤ ((n + 1 : Nat) : Int) := fun c => by
      unfold bump
      rw [List.getD_eq_getElem?_getD, List.getElem?_set]
      by_cases e : x.toNat = c
      · subst e
        by_cases hl : x.toNat < cs.length
        · simp only [hl, if_true, Option.getD_some]
          have := h2 x.toNat; omega
        · simp only [hl, if_true, if_false, Option.getD_none]; omega
      · rw [if_neg e, ← List.getD_eq_getElem?_getD]
        have := h2 c; omega
    have := ih (bump cs x.toNat) (n + 1) (by rw [bump_len]; exact h1) hb
    refine ⟨this.1, fun c => ⟨(this.2 c).1, ?_⟩⟩
    have h := (this.2 c).2
    simp only [List.foldl_cons, List.length_cons]
    have e : ((n + 1 + r.length : Nat) : Int) = ((n + (r.length + 1) : Nat) : Int) := by omega
    rw [← e]; exact h
def countA (ns : List Int) : List Int := if vR ns = true then cntUp ns 24 else z6
theorem countA_len (ns : List Int) : (countA ns).length = 6 := by
  unfold countA
  by_cases h : vR ns = true
  · rw [if_pos h]; exact (cnt_all ns 24).1
  · rw [if_neg h]; rfl
theorem Has.zero6 (w : World) (T : TypeId) : Has (w.alloc (.cells #[.int .i64 0, .int .i64 0, .int .i64 0, .int .i64 0, .int .i64 0, .int .i64 0] T)) w.heap.size z6 6 := Has.box (ns := z6) w T rfl (by decide)
/-- A layer of a valid rack is a color's number; its count goes up. -/
theorem count_layer (ns : List Int) (h24 : ns.length = 24) (hv : vR ns = true) (p q : Nat) (hp : p < 6) (hq : q < 4) :
    ∃ c : Nat, c < 6 ∧ (tub ns p).getD q 0 = (c : Int) ∧ cntUp ns (p * 4 + q + 1) = (cntUp ns (p * 4 + q)).set c ((cntUp ns (p * 4 + q)).getD c 0 + 1) := by
  have h4 := tub_len ns p h24 hp
  have hk := (known_iff h4).1 (by have := vR_tub hv p hp; unfold vT at this; exact (Bool.and_eq_true_iff.1 this).1) q hq
  refine ⟨((tub ns p).getD q 0).toNat, by omega, by omega, ?_⟩
  rw [cntUp_step ns (p * 4 + q) (by omega), tub_getD ns p q hq]; rfl

end Go.Proofs.Ytnldnjnnjfbhnaa.base
