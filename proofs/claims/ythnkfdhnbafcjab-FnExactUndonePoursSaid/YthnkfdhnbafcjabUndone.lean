/-
  Whether a pour is undone, on both sides, walked.
-/
import Derived.Test.YthnkfdhnbafcjabBackP
namespace Go.Proofs.Ythnkfdhnbafcjab.base
open Go.ChangeShapes Go.WideShapes Go.ChangeAt Go.RowKit
set_option linter.unusedVariables false
set_option linter.unusedSimpArgs false

/-- A pour, and the pour against it. -/
def undB (ns : List Int) (i j : Int) : Bool := pourOk ns i j && (pourOk (pourR ns i j) j i && decide (pourR (pourR ns i j) j i = ns))
theorem pourOk_can (ns : List Int) (i j : Int) : pourOk ns i j = canA ns i j := rfl
theorem pourOk_two {ns : List Int} {p q : Nat} (hv : vR ns = true) (hp : p < 6) (hq : q < 6) : pourOk ns (p : Int) (q : Int) = decide (p ≠ q ∧ 0 < canN (tub ns p) (tub ns q)) := by
  by_cases hne : p = q
  · unfold pourOk
    rw [twoOk_not (fun h => h.2.2.2 (by omega))]
    simp [hne]
  · unfold pourOk
    rw [twoOk_yes hv hp hq hne]
    simp [hne]
theorem pourR_two {ns : List Int} {p q : Nat} (h : pourOk ns (p : Int) (q : Int) = true) : pourR ns (p : Int) (q : Int) = pourT ns p q := by
  unfold pourR; rw [if_pos h]; simp

set_option maxHeartbeats 1600000 in
set_option maxRecDepth 100000 in
theorem l5Undone_any (ns : List Int) (p q : Nat) (w : World) (h24 : ns.length = 24) (hv : vR ns = true) (hp : p < 6) (hq : q < 6) (hok : pourOk ns (p : Int) (q : Int) = true) :
    Calls Try.prog 31 #[row ns, .int .i64 (p : Nat), .int .i64 (q : Nat)] w fun e w' => e = .returned (.bool (undB ns p q)) ∧ Kept w w' := by
  have hpq : p ≠ q ∧ 0 < canN (tub ns p) (tub ns q) := by rw [pourOk_two hv hp hq] at hok; exact of_decide_eq_true hok
  have MO := pour_moveOk h24 hv hp hq hpq.1 hpq.2
  have hl : (pourT ns p q).length = 24 := MO.len24
  have hV : vR (pourT ns p q) = true := MO.valid
  have E0 := Lib.hid (show undB ns p q = (pourOk (pourT ns p q) (q : Int) (p : Int) && decide (pourR (pourT ns p q) (q : Int) (p : Int) = ns)) by unfold undB; rw [hok, pourR_two hok]; rfl)
  have HB := Lib.hid ((kept_refl w).alloc (.cells (ints ns).toArray 29))
  have H := Has.box w 29 h24 (by omega)
  have HC := Lib.hid (pourOk_two hV hq hp)
  have HPQ := Lib.hid hpq
  clear MO hpq hok
  rw [row_ints]
  go_enter Try.func31, Try.ntmps31
  go_wp2_with (refine load_has rfl 29 _ rfl _ rfl ?_ 24 ?_ _ Try.underlying29 rfl ?_ ?_; rotate_left; (· (repeat (first | (with_reducible assumption) | ((with_reducible refine Has.box _ _ ?_ ?_) <;> (first | assumption | decide)) | (with_reducible refine Has.alloc ?_ _) | ((with_reducible refine Has.putOther ?_ _ _ ?_); rotate_left; omega; skip) | ((with_reducible refine Has.below ?_ ?_); rotate_left; assumption)))); (· kernel_rfl))
  refine (l2Pour_any ns p q _ h24 hv hp hq HPQ.out.1 HPQ.out.2).mono ?_
  rintro e w1 ⟨rfl, b1⟩
  have R1 := Has.box w1 29 hl (by omega)
  have H1 := (H.below b1).alloc (.cells (ints (pourT ns p q)).toArray 29)
  have HB1 := Lib.hid ((HB.out.call b1).alloc (.cells (ints (pourT ns p q)).toArray 29))
  clear H HB b1
  go_wp2_with (first | (refine store_new rfl 29 _ _ rfl _ _ _ rfl _ rfl _ rfl rfl ?_ ?_ ?_; (· (first | assumption | rfl)); (· kernel_rfl)) | (refine load_has rfl 29 _ rfl _ rfl ?_ 24 ?_ _ Try.underlying29 rfl ?_ ?_; rotate_left; (· (repeat (first | (with_reducible assumption) | ((with_reducible refine Has.box _ _ ?_ ?_) <;> (first | assumption | decide)) | (with_reducible refine Has.alloc ?_ _) | ((with_reducible refine Has.putOther ?_ _ _ ?_); rotate_left; omega; skip) | ((with_reducible refine Has.below ?_ ?_); rotate_left; assumption)))); (· kernel_rfl)))
  refine (l2Can_any (pourT ns p q) q p _ hl hV hq hp).mono ?_
  rintro e w2 ⟨rfl, b2⟩
  have R2 := R1.below b2
  have H2 := H1.below b2
  have HB2 := Lib.hid (HB1.out.call b2)
  rw [← HC.out]
  clear R1 H1 HB1 b2
  by_cases hc : pourOk (pourT ns p q) (q : Int) (p : Int) = true
  · rw [hc]
    have hqp : q ≠ p ∧ 0 < canN (tub (pourT ns p q) q) (tub (pourT ns p q) p) := by rw [HC.out] at hc; exact of_decide_eq_true hc
    have HQP := Lib.hid hqp
    have hl2 : (pourT (pourT ns p q) q p).length = 24 := (pour_moveOk hl hV hq hp hqp.1 hqp.2).len24
    have E1 := Lib.hid (show undB ns p q = decide (pourT (pourT ns p q) q p = ns) by rw [E0.out, hc, pourR_two hc]; rfl)
    clear hc hqp
    go_wp2_with (refine load_has rfl 29 _ rfl _ rfl ?_ 24 ?_ _ Try.underlying29 rfl ?_ ?_; rotate_left; (· (repeat (first | (with_reducible assumption) | ((with_reducible refine Has.box _ _ ?_ ?_) <;> (first | assumption | decide)) | (with_reducible refine Has.alloc ?_ _) | ((with_reducible refine Has.putOther ?_ _ _ ?_); rotate_left; omega; skip) | ((with_reducible refine Has.below ?_ ?_); rotate_left; assumption)))); (· kernel_rfl))
    refine (l2Pour_any (pourT ns p q) q p _ hl hV hq hp HQP.out.1 HQP.out.2).mono ?_
    rintro e w3 ⟨rfl, b3⟩
    have R3 := Has.box w3 29 hl2 (by omega)
    have H3 := (H2.below b3).alloc (.cells (ints (pourT (pourT ns p q) q p)).toArray 29)
    have HB3 := Lib.hid ((HB2.out.call b3).alloc (.cells (ints (pourT (pourT ns p q) q p)).toArray 29))
    have EQ := Lib.hid (eqRackT (pourT (pourT ns p q) q p) ns hl2 h24)
    have EM : Hid (Try.prog.eqGuardType Try.prog.depth 29 = false) := Lib.hid (by kernel_rfl)
    clear R2 H2 HB2 b3
    generalize hT : pourT (pourT ns p q) q p = T at *
    have HT := Lib.hid hT
    clear hT
    go_wp2_with (first | (refine store_new rfl 29 _ _ rfl _ _ _ rfl _ rfl _ rfl rfl ?_ ?_ ?_; (· (first | assumption | rfl)); (· kernel_rfl)) | (refine load_has rfl 29 _ rfl _ rfl ?_ 24 ?_ _ Try.underlying29 rfl ?_ ?_; rotate_left; (· (repeat (first | (with_reducible assumption) | ((with_reducible refine Has.box _ _ ?_ ?_) <;> (first | assumption | decide)) | (with_reducible refine Has.alloc ?_ _) | ((with_reducible refine Has.putOther ?_ _ _ ?_); rotate_left; omega; skip) | ((with_reducible refine Has.below ?_ ?_); rotate_left; assumption)))); (· kernel_rfl)) | (refine eql_has rfl 29 29 _ _ rfl T ns rfl rfl EM.out EQ.out ?_))
    go_ret
    exact ⟨by rw [E1.out]; rfl, HB3.out⟩
  · have hf : pourOk (pourT ns p q) (q : Int) (p : Int) = false := by simpa using hc
    have E1 := Lib.hid (show undB ns p q = false by rw [E0.out, hf]; rfl)
    rw [hf]
    clear hf hc
    go_wp2_with fail
    go_ret
    exact ⟨by rw [E1.out]; rfl, HB2.out⟩

set_option maxHeartbeats 800000 in
theorem implIsUndone (ns : List Int) (i j : Int) (w : World) (h24 : ns.length = 24) :
    Calls Try.prog 34 #[row ns, .int .i64 i, .int .i64 j] w fun e w' => e = .returned (.tuple #[.bool (undB ns i j), .bool (pourOk ns i j)]) ∧ Kept w w' := by
  have HB := Lib.hid ((kept_refl w).alloc (.cells (ints ns).toArray 29))
  have H := Has.box w 29 h24 (by omega)
  have NO := Lib.hid (show pourOk ns i j = false → undB ns i j = false from fun h => by unfold undB; rw [h]; rfl)
  rw [row_ints]
  go_enter Try.func34, Try.ntmps34
  go_wp2_with (refine load_has rfl 29 _ rfl _ rfl ?_ 24 ?_ _ Try.underlying29 rfl ?_ ?_; rotate_left; (· (repeat (first | (with_reducible assumption) | ((with_reducible refine Has.box _ _ ?_ ?_) <;> (first | assumption | decide)) | (with_reducible refine Has.alloc ?_ _) | ((with_reducible refine Has.putOther ?_ _ _ ?_); rotate_left; omega; skip) | ((with_reducible refine Has.below ?_ ?_); rotate_left; assumption)))); (· kernel_rfl))
  refine (implCanPour ns i j _ h24).mono ?_
  rintro e w1 ⟨rfl, b1⟩
  rw [← pourOk_can]
  have H1 := H.below b1
  have HB1 := Lib.hid (HB.out.call b1)
  clear H HB b1
  by_cases hc : pourOk ns i j = true
  · have O := Lib.hid hc
    rw [hc]
    clear hc
    go_wp2_with (refine load_has rfl 29 _ rfl _ rfl ?_ 24 ?_ _ Try.underlying29 rfl ?_ ?_; rotate_left; (· (repeat (first | (with_reducible assumption) | ((with_reducible refine Has.box _ _ ?_ ?_) <;> (first | assumption | decide)) | (with_reducible refine Has.alloc ?_ _) | ((with_reducible refine Has.putOther ?_ _ _ ?_); rotate_left; omega; skip) | ((with_reducible refine Has.below ?_ ?_); rotate_left; assumption)))); (· kernel_rfl))
    refine (pourTrip_any ns i j 0 _ h24).mono ?_
    rintro e w2 ⟨rfl, b2⟩
    have e0 : (pourOk ns i j && (pourOk (pourR ns i j) j i && decide (pourR (pourR ns i j) j i = ns))) = undB ns i j := rfl
    rw [e0]
    have HB2 := Lib.hid ((HB1.out.call b2).alloc (.cells (ints (pourR ns i j)).toArray 29))
    have hl := pourR_len h24 i j
    clear HB1 b2 H1 e0
    generalize hU : undB ns i j = U at *
    have HU := Lib.hid hU
    clear hU
    go_wp2_with (refine store_new rfl 29 _ _ rfl _ _ _ rfl _ rfl _ rfl rfl ?_ ?_ ?_; (· (first | assumption | rfl)); (· kernel_rfl))
    go_ret2
    exact ⟨by rw [O.out, HU.out]; rfl, HB2.out⟩
  · have hf : pourOk ns i j = false := by simpa using hc
    have O := Lib.hid hf
    rw [hf]
    clear hf hc
    go_wp2_with fail
    go_ret2
    exact ⟨by rw [O.out, NO.out O.out]; rfl, HB1.out⟩

end Go.Proofs.Ythnkfdhnbafcjab.base
