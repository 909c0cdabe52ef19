/-
  How often a color is in a rack, tube by tube: plain mathematics.
-/
import Derived.Test.YtemiljokdedidacCount
namespace Go.Proofs.Ytemiljokdedidac.base
set_option linter.unusedVariables false
set_option linter.unusedSimpArgs false

def cnV (d : Nat) (t : List Int) : Nat := (t.filter fun x => decide (x.toNat = d)).length

theorem cn_appV (d : Nat) (a b : List Int) : cnV d (a ++ b) = cnV d a + cnV d b := by unfold cnV; rw [List.filter_append, List.length_append]
theorem six_tubsV {ns : List Int} (h : ns.length = 24) : ns = tub ns 0 ++ tub ns 1 ++ tub ns 2 ++ tub ns 3 ++ tub ns 4 ++ tub ns 5 := by
  refine rack_ext h (by simp only [List.length_append, tub_len ns _ h (by omega : 0 < 6), tub_len ns _ h (by omega : 1 < 6), tub_len ns _ h (by omega : 2 < 6), tub_len ns _ h (by omega : 3 < 6), tub_len ns _ h (by omega : 4 < 6), tub_len ns _ h (by omega : 5 < 6)]) (fun i hi => ?_)
  have l := fun i hi => tub_len ns i h hi
  obtain ⟨x0, x1, x2, x3, e0⟩ := len4 (l 0 (by omega))
  obtain ⟨y0, y1, y2, y3, e1⟩ := len4 (l 1 (by omega))
  obtain ⟨z0, z1, z2, z3, e2⟩ := len4 (l 2 (by omega))
  obtain ⟨u0, u1, u2, u3, e3⟩ := len4 (l 3 (by omega))
  obtain ⟨v0, v1, v2, v3, e4⟩ := len4 (l 4 (by omega))
  obtain ⟨w0, w1, w2, w3, e5⟩ := len4 (l 5 (by omega))
  rw [e0, e1, e2, e3, e4, e5]
  match i, hi with
  | 0, _ => exact e0
  | 1, _ => exact e1
  | 2, _ => exact e2
  | 3, _ => exact e3
  | 4, _ => exact e4
  | 5, _ => exact e5
theorem cn_rackV (d : Nat) {ns : List Int} (h : ns.length = 24) : cnV d ns = cnV d (tub ns 0) + cnV d (tub ns 1) + cnV d (tub ns 2) + cnV d (tub ns 3) + cnV d (tub ns 4) + cnV d (tub ns 5) := by
  conv => lhs; rw [six_tubsV h]
  rw [cn_appV, cn_appV, cn_appV, cn_appV, cn_appV]

theorem cntUp_cnV (ns : List Int) (hv : ∀ j, j < ns.length → 0 ≤ ns.getD j 0 ∧ ns.getD j 0 ≤ 5) : ∀ k, k ≤ ns.length → ∀ d, d < 6 → (cntUp ns k).getD d 0 = (cnV d (ns.take k) : Int)
  | 0, _, d, hd => by
    have : cntUp ns 0 = z6 := rfl
    rw [this]
    unfold cnV
    match d, hd with
    | 0, _ => rfl
    | 1, _ => rfl
    | 2, _ => rfl
    | 3, _ => rfl
    | 4, _ => rfl
    | 5, _ => rfl
  | k + 1, hk, d, hd => by
    have ih := cntUp_cnV ns hv k (by omega)
    have hb := hv k (by omega)
    have hl := (cnt_all ns k).1
    rw [cntUp_step ns k (by omega), List.take_succ_eq_append_getElem (by omega), cn_appV]
    have e : ns[k] = ns.getD k 0 := by rw [List.getD_eq_getElem?_getD, List.getElem?_eq_getElem (by omega)]; rfl
    rw [e]
    generalize ns.getD k 0 = x at *
    unfold bump
    by_cases hx : x.toNat = d
    · have c1 : cnV d [x] = 1 := by unfold cnV; simp [hx]
      rw [c1, hx, List.getD_eq_getElem?_getD, List.getElem?_set_self (by omega), ih d hd]
      simp
    · have c0 : cnV d [x] = 0 := by unfold cnV; simp [hx]
      rw [c0, List.getD_eq_getElem?_getD, List.getElem?_set_ne (fun e => hx e), ← List.getD_eq_getElem?_getD, ih d hd]
      simp
theorem vR_allV {ns : List Int} (h : ns.length = 24) (hv : vR ns = true) (j : Nat) (hj : j < ns.length) : 0 ≤ ns.getD j 0 ∧ ns.getD j 0 ≤ 5 := by
  have hk : known (tub ns (j / 4)) = true := by have := vR_tub hv (j / 4) (by omega); unfold vT at this; exact (Bool.and_eq_true_iff.1 this).1
  have := tub_getD ns (j / 4) (j % 4) (by omega)
  rw [Nat.div_add_mod' j 4] at this
  rw [← this]
  have hl := tub_len ns (j / 4) h (by omega)
  have := List.all_eq_true.1 hk ((tub ns (j / 4)).getD (j % 4) 0) (by rw [List.getD_eq_getElem?_getD, List.getElem?_eq_getElem (by omega)]; exact List.getElem_mem _)
  simpa using this
end Go.Proofs.Ytemiljokdedidac.base
