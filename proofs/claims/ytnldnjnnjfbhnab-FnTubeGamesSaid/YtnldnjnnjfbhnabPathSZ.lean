/-
  Paths on the model's side, walked: what can be poured, and whether all pours are good.
-/
/-
  Paths on the program's side, walked: whether all pours are good.
-/
import Derived.Test.YtnldnjnnjfbhnabChgZ
import Derived.Test.YtnldnjnnjfbhnabGoodIZ

section
namespace Go.Proofs.Ytnldnjnnjfbhnab.base
open Go.ChangeShapes Go.WideShapes Go.ChangeAt Go.RowKit
set_option linter.unusedVariables false
set_option linter.unusedSimpArgs false

set_option maxHeartbeats 1600000 in
theorem l6Can_any (ns : List Int) (x y : Int) (w : World) (h24 : ns.length = 24) (hv : vR ns = true) :
    Calls Try.prog 42 #[row ns, .agg (ints [x, y]).toArray] w fun e w' => e = .returned (.bool (pourOk ns x y)) ∧ Kept w w' := by
  have HB := Lib.hid (((kept_refl w).alloc (.cells (ints ns).toArray 27)).alloc (.cells (ints [x, y]).toArray 36))
  have H := (Has.box w 27 h24 (by omega)).alloc (.cells (ints [x, y]).toArray 36)
  have B := (Has.box (ns := [x, y]) (n := 2) (w.alloc (.cells (ints ns).toArray 27)) 36 rfl (by omega)).at (size1 _ _)
  have cc0 := B.cell 0 (by omega)
  have cc1 := B.cell 1 (by omega)
  have E := Lib.hid (pourOk_iff hv x y)
  rw [List.getD_cons_zero] at cc0
  rw [List.getD_cons_succ, List.getD_cons_zero] at cc1
  rw [row_ints]
  go_enter Try.func42, Try.ntmps42
  go_wp2_with fail
  refine (l2Place_any x _).mono ?_
  rintro e w' ⟨rfl, rfl⟩
  by_cases hx : 0 ≤ x ∧ x < 6
  · rw [decide_eq_true hx]
    have HX := Lib.hid hx
    clear hx
    go_wp2_with fail
    refine (l2Place_any y _).mono ?_
    rintro e w' ⟨rfl, rfl⟩
    by_cases hy : 0 ≤ y ∧ y < 6
    · rw [decide_eq_true hy]
      have HY := Lib.hid hy
      clear hy
      obtain ⟨p, rfl⟩ : ∃ p : Nat, x = (p : Int) := ⟨x.toNat, by have := HX.out; omega⟩
      obtain ⟨q, rfl⟩ : ∃ q : Nat, y = (q : Int) := ⟨y.toNat, by have := HY.out; omega⟩
      have hp : p < 6 := by have := HX.out; omega
      have hq : q < 6 := by have := HY.out; omega
      have E2 : Hid (pourOk ns (p : Int) (q : Int) = decide (p ≠ q ∧ 0 < canN (tub ns p) (tub ns q))) := Lib.hid (by
        rw [E.out, decide_eq_true HX.out, decide_eq_true HY.out, Int.toNat_natCast, Int.toNat_natCast, Bool.true_and, Bool.true_and, decide_eq_decide]
        constructor
        · rintro ⟨h1, h2⟩; exact ⟨fun e => h1 (by rw [e]), h2⟩
        · rintro ⟨h1, h2⟩; exact ⟨fun e => h1 (by omega), h2⟩)
      go_wp2_with (refine load_has rfl 27 _ rfl _ rfl ?_ 24 ?_ _ Try.underlying27 rfl ?_ ?_; rotate_left; (· (repeat (first | (with_reducible assumption) | ((with_reducible refine Has.box _ _ ?_ ?_) <;> (first | assumption | decide)) | (with_reducible refine Has.alloc ?_ _) | ((with_reducible refine Has.putOther ?_ _ _ ?_); rotate_left; omega; skip) | ((with_reducible refine Has.below ?_ ?_); rotate_left; assumption)))); (· kernel_rfl))
      refine (l2Can_any ns p q _ h24 hv hp hq).mono ?_
      rintro e w1 ⟨rfl, b1⟩
      have HB1 := Lib.hid (HB.out.call b1)
      clear b1
      rw [← E2.out]
      go_wp2_with fail
      go_ret
      exact ⟨rfl, HB1.out⟩
    · rw [decide_eq_false hy]
      have E2 : Hid (pourOk ns x y = false) := Lib.hid (by rw [E.out, decide_eq_false hy, Bool.and_false]; rfl)
      clear hy
      go_wp2_with fail
      go_ret
      exact ⟨ret_bool E2.out.symm, HB.out⟩
  · rw [decide_eq_false hx]
    have E2 : Hid (pourOk ns x y = false) := Lib.hid (by rw [E.out, decide_eq_false hx]; rfl)
    clear hx
    go_wp2_with fail
    go_ret
    exact ⟨ret_bool E2.out.symm, HB.out⟩

end Go.Proofs.Ytnldnjnnjfbhnab.base
end

section
namespace Go.Proofs.Ytnldnjnnjfbhnab.base
open Go.ChangeShapes Go.WideShapes Go.ChangeAt Go.RowKit
set_option linter.unusedVariables false
set_option linter.unusedSimpArgs false

theorem arePath_any (ns : List Int) (a : Option Addr) (n cap : Nat) (w : World) (h24 : ns.length = 24) (hn : n ≤ 1048576) :
    Calls Try.prog 39 #[row ns, .slice a n cap] w fun e w' => e = .returned (.bool (pathOk ns n)) ∧ Kept w w' := by
  have HB := Lib.hid ((kept_refl w).alloc (.cells (ints ns).toArray 27))
  have H := Has.box w 27 h24 (by omega)
  rw [row_ints]
  go_enter Try.func39, Try.ntmps39
  go_wp2_with (refine load_has rfl 27 _ rfl _ rfl ?_ 24 ?_ _ Try.underlying27 rfl ?_ ?_; rotate_left; (· (repeat (first | (with_reducible assumption) | ((with_reducible refine Has.box _ _ ?_ ?_) <;> (first | assumption | decide)) | (with_reducible refine Has.alloc ?_ _) | ((with_reducible refine Has.putOther ?_ _ _ ?_); rotate_left; omega; skip) | ((with_reducible refine Has.below ?_ ?_); rotate_left; assumption)))); (· kernel_rfl))
  refine (isRack_any ns _ h24).mono ?_
  rintro e w1 ⟨rfl, b1⟩
  have HB1 := Lib.hid (HB.out.call b1)
  clear H HB b1
  by_cases hv : vR ns = true
  · have E : Hid (pathOk ns n = decide ((n : Int) ≤ 60)) := Lib.hid (by unfold pathOk; rw [hv, Bool.true_and, decide_eq_decide]; omega)
    rw [hv]
    clear hv
    go_wp2_with fail
    go_ret
    exact ⟨ret_bool E.out.symm, HB1.out⟩
  · have hf : vR ns = false := by simpa using hv
    have E : Hid (pathOk ns n = false) := Lib.hid (by unfold pathOk; rw [hf]; rfl)
    rw [hf]
    clear hf hv
    go_wp2_with fail
    go_ret
    exact ⟨ret_bool E.out.symm, HB1.out⟩

end Go.Proofs.Ytnldnjnnjfbhnab.base
end
