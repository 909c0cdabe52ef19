/-
  Depths, and racks that are valid for them, on both sides, walked.
-/
/-
  Racks that are valid for depths, on both sides, walked.
-/
import Derived.Test.YtemiljokdedidacOthM
import Derived.Test.YtemiljokdedidacSixVZ
import Derived.Test.YtemiljokdedidacMinMax
import Derived.Test.YtemiljokdedidacSpecW
import Derived.Test.YtemiljokdedidacMoveI

section
namespace Go.Proofs.Ytemiljokdedidac.base
open Go.ChangeShapes Go.WideShapes Go.ChangeAt Go.RowKit
set_option linter.unusedVariables false
set_option linter.unusedSimpArgs false

theorem vD_lohi (ds : List Int) : vD ds = (decide (1 ≤ loUp ds 5) && decide (hiUp ds 5 ≤ 4)) := by
  rw [Bool.eq_iff_iff, Bool.and_eq_true, decide_eq_true_eq, decide_eq_true_eq, lo_iff, hi_iff]
  unfold vD
  rw [List.all_eq_true]
  constructor
  · intro h
    refine ⟨fun i hi => (of_decide_eq_true (h i (List.mem_range.2 (by omega)))).1, fun i hi => (of_decide_eq_true (h i (List.mem_range.2 (by omega)))).2⟩
  · rintro ⟨h1, h2⟩ i hi
    have := List.mem_range.1 hi
    exact decide_eq_true ⟨h1 i (by omega), h2 i (by omega)⟩

def vDUp (ds : List Int) (k : Nat) : Bool := (List.range k).all fun i => decide (1 ≤ ds.getD i 0 ∧ ds.getD i 0 ≤ 4)
theorem vDUp_succ (ds : List Int) (k : Nat) : vDUp ds (k + 1) = (vDUp ds k && decide (1 ≤ ds.getD k 0 ∧ ds.getD k 0 ≤ 4)) := by
  unfold vDUp; rw [List.range_succ, List.all_append]; simp
theorem vD_stop {ds : List Int} (k : Nat) (hk : k < 6) (h : ¬ (1 ≤ ds.getD k 0 ∧ ds.getD k 0 ≤ 4)) : vD ds = false := by
  cases hb : vD ds with
  | false => rfl
  | true => exact absurd (vD_at hb k hk) h
def manyUp (t : List Int) (k : Nat) : Nat := ((t.take k).filter fun x => decide (0 < x)).length
theorem manyUp_succ (t : List Int) (k : Nat) (hk : k < t.length) : manyUp t (k + 1) = manyUp t k + if 0 < t.getD k 0 then 1 else 0 := by
  unfold manyUp
  have e : t.getD k 0 = t[k] := by rw [List.getD_eq_getElem?_getD, List.getElem?_eq_getElem hk]; rfl
  rw [← List.take_append_getElem hk, List.filter_append, List.length_append, e]
  congr 1
  by_cases h : 0 < t[k]
  · rw [if_pos h, List.filter_cons, if_pos (by simpa using h)]; rfl
  · rw [if_neg h, List.filter_cons, if_neg (by simpa using h)]; rfl
theorem manyUp_all {t : List Int} (h : t.length = 4) : manyUp t 4 = many t := by
  unfold manyUp many; rw [List.take_of_length_le (by omega)]
set_option maxHeartbeats 400000 in
theorem l2ManyM_any (t : List Int) (w : World) (h4 : t.length = 4) :
    Calls Try.prog 95 #[row t] w fun e w' => e = .returned (.int .i64 (many t : Nat)) ∧ Kept w w' := by
  have HB := Lib.hid ((kept_refl w).alloc (.cells (ints t).toArray 37))
  have H := Has.box w 37 h4 (by omega)
  have E := Lib.hid (manyUp_all h4)
  have HS := Lib.hid (fun k hk => manyUp_succ t k hk)
  have HL := Lib.hid h4
  rw [row_ints]
  go_enter Try.func95, Try.ntmps95
  go_wp2_with fail
  go_loop [3, 4] (fun m i => ∃ k q : Nat, k ≤ 4 ∧ i = .int .i64 k ∧ m = .int .i64 q ∧ Hid (q = manyUp t k) ∧ q ≤ k) (fun _ i => 4 - (intOf i).toNat)
  case atStart => exact ⟨0, 0, by omega, rfl, rfl, Lib.hid (by unfold manyUp; rfl), by omega⟩
  case round =>
    obtain ⟨k, q, hk, rfl, rfl, HQ, hq4⟩ := hrel
    by_cases h : k < 4
    · have c0 := H.cell k h
      have f0 := HS.out k (by have := HL.out; omega)
      generalize t.getD k 0 = x at *
      by_cases hl : 0 < x
      · have R := Lib.hid (show q + 1 = manyUp t (k + 1) by rw [f0, if_pos hl, HQ.out])
        clear f0
        go_wp2_with fail
        go_round
        case rel => exact ⟨k + 1, q + 1, by omega, by go_num, by go_num, R, by omega⟩
        case measure => simp [intOf]; omega
      · have p0 : decide (0 < x) = false := decide_eq_false hl
        have R := Lib.hid (show q = manyUp t (k + 1) by rw [f0, if_neg hl, HQ.out]; rfl)
        clear f0
        go_wp2_with fail
        go_round
        case rel => exact ⟨k + 1, q, by omega, by go_num, rfl, R, by omega⟩
        case measure => simp [intOf]; omega
    · obtain rfl : k = 4 := by omega
      have E2 := Lib.hid (show q = many t by rw [HQ.out, E.out])
      go_wp2_with fail
      go_ret
      exact ⟨ret_int (by rw [E2.out]), HB.out⟩
end Go.Proofs.Ytemiljokdedidac.base
end

section
namespace Go.Proofs.Ytemiljokdedidac.base
open Go.ChangeShapes Go.WideShapes Go.ChangeAt Go.RowKit
set_option linter.unusedVariables false
set_option linter.unusedSimpArgs false

theorem keptDrew8 {w w' : World} (h : Kept w w') : Kept w w'.drew := h.drewN 1
theorem Has.cellE {w : World} {b n k : Nat} {ns : List Int} {x : Int} (H : Has w b ns n) (hk : k < n) (hx : ns.getD k 0 = x) : w.cell? ⟨b, k, Option.none⟩ = some (.int .i64 x) := by rw [H.cell k hk, hx]
def inDUp (ns ds : List Int) (k : Nat) : Bool := (List.range k).all fun i => decide (((many (tub ns i) : Nat) : Int) ≤ ds.getD i 0)
theorem inDUp_succ (ns ds : List Int) (k : Nat) : inDUp ns ds (k + 1) = (inDUp ns ds k && decide (((many (tub ns k) : Nat) : Int) ≤ ds.getD k 0)) := by
  unfold inDUp; rw [List.range_succ, List.all_append]; simp
theorem inD_stop {ns ds : List Int} (k : Nat) (hk : k < 6) (h : ¬ (((many (tub ns k) : Nat) : Int) ≤ ds.getD k 0)) : inD ns ds = false := by
  cases hb : inD ns ds with
  | false => rfl
  | true => exact absurd (inD_at hb k hk) h
theorem fit_stop {ns ds : List Int} (h : inD ns ds = false) : fitA ns ds = false := by unfold fitA; rw [h, Bool.and_false]

end Go.Proofs.Ytemiljokdedidac.base
end
