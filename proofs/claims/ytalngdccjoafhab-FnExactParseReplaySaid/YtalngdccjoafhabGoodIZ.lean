/-
  Good pours on the program's side, walked: all pours, filtered in place.
-/
/-
  Good pours on the model's side, walked.
-/
/-
  Paths on the model's side, walked: what can be poured, and whether all pours are good.
-/
import Derived.Test.YtalngdccjoafhabChgZ
import Derived.Test.YtalngdccjoafhabRwZ
import Derived.Test.YtalngdccjoafhabCan2Z
import Derived.Test.YtalngdccjoafhabUseS
import Derived.Test.YtalngdccjoafhabDoPZ

section
namespace Go.Proofs.Ytalngdccjoafhab.base
open Go.ChangeShapes Go.WideShapes Go.ChangeAt Go.RowKit
set_option linter.unusedVariables false
set_option linter.unusedSimpArgs false

def FirstBad (P : Int → Int → Bool) (fs : List Int) (n : Nat) (z : Int) : Prop :=
  (z = -1 ∧ ∀ j, j < n → P (fs.getD (j * 2) 0) (fs.getD (j * 2 + 1) 0) = true) ∨
    ∃ k : Nat, k < n ∧ z = (k : Int) ∧ (∀ j, j < k → P (fs.getD (j * 2) 0) (fs.getD (j * 2 + 1) 0) = true) ∧ P (fs.getD (k * 2) 0) (fs.getD (k * 2 + 1) 0) = false

def GoodPost (ns : List Int) (w : World) (e : Ending) (w' : World) : Prop := ∃ v : Value, e = .returned (.tuple #[v, .bool (vR ns)]) ∧ Rw w' (w.heap.size + 1) v (goodN ns) (goodF ns) ∧ Kept w w'

end Go.Proofs.Ytalngdccjoafhab.base
end

section
namespace Go.Proofs.Ytalngdccjoafhab.base
open Go.ChangeShapes Go.WideShapes Go.ChangeAt Go.RowKit
set_option linter.unusedVariables false
set_option linter.unusedSimpArgs false

theorem good_of {ns : List Int} {x y : Int} (h : pourOk ns x y = true) : goodP ns x y = decide (bndA (pourR ns x y) < bndA ns) := by unfold goodP; rw [h, Bool.true_and]
theorem pourR_T {ns : List Int} {p q : Nat} (h : pourOk ns (p : Int) (q : Int) = true) : pourR ns (p : Int) (q : Int) = pourT ns p q := by unfold pourR; rw [if_pos h]; simp
theorem Prs.aside {w : World} {b n : Nat} {v : Value} {fs : List Int} (h : Prs w b v n fs) (c o : Nat) (vs : List Value) (hne : ∀ k, v.ownBlock = some k → k ≠ c) : Prs (w.setCells c o vs) b v n fs := by
  have hb := below_setCells (B := 0) c (Nat.zero_le _) vs o w w (Below.refl _ _)
  exact h.apart (r := some c) ⟨hb.os, hb.tape, hb.output, Nat.le_of_eq (size_setCells c vs o w).symm, fun i hi hn => World.heap_setCells_other w c o vs hi (fun e => hn (by rw [e]))⟩ (fun k hk e => by injection hk with hk; subst hk; exact hne _ e rfl)

end Go.Proofs.Ytalngdccjoafhab.base
end

section
namespace Go.Proofs.Ytalngdccjoafhab.base
open Go.ChangeShapes Go.WideShapes Go.ChangeAt Go.RowKit
set_option linter.unusedVariables false
set_option linter.unusedSimpArgs false

set_option maxHeartbeats 1600000 in
theorem l6Can_any (ns : List Int) (x y : Int) (w : World) (h24 : ns.length = 24) (hv : vR ns = true) :
    Calls Try.prog 29 #[row ns, .agg (ints [x, y]).toArray] w fun e w' => e = .returned (.bool (pourOk ns x y)) ∧ Kept w w' := by
  have HB := Lib.hid (((kept_refl w).alloc (.cells (ints ns).toArray 30)).alloc (.cells (ints [x, y]).toArray 51))
  have H := (Has.box w 30 h24 (by omega)).alloc (.cells (ints [x, y]).toArray 51)
  have B := (Has.box (ns := [x, y]) (n := 2) (w.alloc (.cells (ints ns).toArray 30)) 51 rfl (by omega)).at (size1 _ _)
  have cc0 := B.cell 0 (by omega)
  have cc1 := B.cell 1 (by omega)
  have E := Lib.hid (pourOk_iff hv x y)
  rw [List.getD_cons_zero] at cc0
  rw [List.getD_cons_succ, List.getD_cons_zero] at cc1
  rw [row_ints]
  go_enter Try.func29, Try.ntmps29
  go_wp2_with fail
  refine (l2Place_any x _).mono ?_
  rintro e w' ⟨rfl, rfl⟩
  by_cases hx : 0 ≤ x ∧ x < 6
  · rw [decide_eq_true hx]
    have HX := Lib.hid hx
    clear hx
    go_wp2_with fail
    refine (l2Place_any y _).mono ?_
    rintro e w' ⟨rfl, rfl⟩
    by_cases hy : 0 ≤ y ∧ y < 6
    · rw [decide_eq_true hy]
      have HY := Lib.hid hy
      clear hy
      obtain ⟨p, rfl⟩ : ∃ p : Nat, x = (p : Int) := ⟨x.toNat, by have := HX.out; omega⟩
      obtain ⟨q, rfl⟩ : ∃ q : Nat, y = (q : Int) := ⟨y.toNat, by have := HY.out; omega⟩
      have hp : p < 6 := by have := HX.out; omega
      have hq : q < 6 := by have := HY.out; omega
      have E2 : Hid (pourOk ns (p : Int) (q : Int) = decide (p ≠ q ∧ 0 < canN (tub ns p) (tub ns q))) := Lib.hid (by
        rw [E.out, decide_eq_true HX.out, decide_eq_true HY.out, Int.toNat_natCast, Int.toNat_natCast, Bool.true_and, Bool.true_and, decide_eq_decide]
        constructor
        · rintro ⟨h1, h2⟩; exact ⟨fun e => h1 (by rw [e]), h2⟩
        · rintro ⟨h1, h2⟩; exact ⟨fun e => h1 (by omega), h2⟩)
      go_wp2_with (refine load_has rfl 30 _ rfl _ rfl ?_ 24 ?_ _ Try.underlying30 rfl ?_ ?_; rotate_left; (· (repeat (first | (with_reducible assumption) | ((with_reducible refine Has.box _ _ ?_ ?_) <;> (first | assumption | decide)) | (with_reducible refine Has.alloc ?_ _) | ((with_reducible refine Has.putOther ?_ _ _ ?_); rotate_left; omega; skip) | ((with_reducible refine Has.below ?_ ?_); rotate_left; assumption)))); (· kernel_rfl))
      refine (l2Can_any ns p q _ h24 hv hp hq).mono ?_
      rintro e w1 ⟨rfl, b1⟩
      have HB1 := Lib.hid (HB.out.call b1)
      clear b1
      rw [← E2.out]
      go_wp2_with fail
      go_ret
      exact ⟨rfl, HB1.out⟩
    · rw [decide_eq_false hy]
      have E2 : Hid (pourOk ns x y = false) := Lib.hid (by rw [E.out, decide_eq_false hy, Bool.and_false]; rfl)
      clear hy
      go_wp2_with fail
      go_ret
      exact ⟨ret_bool E2.out.symm, HB.out⟩
  · rw [decide_eq_false hx]
    have E2 : Hid (pourOk ns x y = false) := Lib.hid (by rw [E.out, decide_eq_false hx]; rfl)
    clear hx
    go_wp2_with fail
    go_ret
    exact ⟨ret_bool E2.out.symm, HB.out⟩

end Go.Proofs.Ytalngdccjoafhab.base
end
