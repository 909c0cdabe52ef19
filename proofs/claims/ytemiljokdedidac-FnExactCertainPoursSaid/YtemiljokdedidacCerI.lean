/-
  The certain pours, on the program's side, walked.
-/
import Derived.Test.YtemiljokdedidacFilW
import Derived.Test.YtemiljokdedidacCandWZ
import Derived.Test.YtemiljokdedidacPMath
namespace Go.Proofs.Ytemiljokdedidac.base
open Go.ChangeShapes Go.WideShapes Go.ChangeAt Go.RowKit
set_option linter.unusedVariables false
set_option linter.unusedSimpArgs false

/-- A pour's moved number is the same for all candidates. -/
def cerP (vs : List Int) (x y : Int) : Bool := !uncT (longN vs x.toNat) (4 - vMany vs y.toNat).toNat
def cerF (vs : List Int) : List Int := if vV vs = true then filtF (cerP vs) (poursFA (firstR vs)) (poursNA (firstR vs)) else []
def cerN (vs : List Int) : Nat := if vV vs = true then filtN (cerP vs) (poursFA (firstR vs)) (poursNA (firstR vs)) else 0
theorem cer_keeps {vs : List Int} (h : vs.length = 18) (hv : vV vs = true) : KeepsF vs (poursFA (firstR vs)) (cerP vs) (poursNA (firstR vs)) := by
  obtain ⟨h1, h2⟩ := first_valid h hv
  have ea : poursFA (firstR vs) = poursF (firstR vs) 36 := by unfold poursFA; rw [if_pos h1]
  have en : poursNA (firstR vs) = poursN (firstR vs) 36 := by unfold poursNA; rw [if_pos h1]
  intro j hj W
  rw [ea]
  rw [en] at hj
  have hl := poursF_len (firstR vs) 36
  obtain ⟨k, hk, hc, e1, e2⟩ := (in_poursF (firstR vs) _ _ 36).1 ⟨j, by omega, rfl, rfl⟩
  rw [e1, e2]
  have p6 : k / 6 < 6 := by omega
  have q6 : k % 6 < 6 := by omega
  have cv := h2 (k / 6) (k % 6) p6 q6 hc.1
  rw [decide_eq_true hc.2] at cv
  unfold canV at cv
  have cv := cv.symm
  simp only [Bool.and_eq_true, decide_eq_true_eq] at cv
  obtain ⟨m, c, T⟩ := topFacts h hv (k / 6) p6 (by omega)
  have tq := topV_at (viewFacts h hv).tops (k % 6) q6
  have K := isUncertain_any vs (k / 6) (k % 6) m c (vMany vs (k % 6)).toNat (4 - vMany vs (k % 6)).toNat W h hv p6 q6 T (by omega) (by omega) (by omega)
  refine K.mono ?_
  rintro e w' ⟨rfl, hK⟩
  refine ⟨?_, hK⟩
  unfold cerP
  rw [Bool.not_not, Int.toNat_natCast, Int.toNat_natCast]
def CerPost (vs : List Int) (w : World) (e : Ending) (w' : World) : Prop := ∃ v : Value, e = .returned (.tuple #[v, .bool (vV vs)]) ∧ Rw w' (w.heap.size + 1) v (cerN vs) (cerF vs) ∧ Kept w w'

set_option maxHeartbeats 800000 in
theorem implCer (vs : List Int) (w : World) (h : vs.length = 18) :
    Calls Try.prog 12 #[row vs] w (CerPost vs w) := by
  have HB := Lib.hid ((kept_refl w).alloc (.cells (ints vs).toArray 28))
  have H := Has.box w 28 h (by omega)
  rw [row_ints]
  go_enter Try.func12, Try.ntmps12
  go_wp2_with (refine load_has rfl 28 _ rfl _ rfl ?_ 18 ?_ _ Try.underlying28 rfl ?_ ?_; rotate_left; (· (repeat (first | (with_reducible assumption) | ((with_reducible refine Has.box _ _ ?_ ?_) <;> (first | assumption | decide)) | (with_reducible refine Has.alloc ?_ _) | ((with_reducible refine Has.putOther ?_ _ _ ?_); rotate_left; omega; skip) | ((with_reducible refine Has.below ?_ ?_); rotate_left; assumption)))); (· kernel_rfl))
  refine (implFirst vs _ h).mono ?_
  rintro e w1 ⟨rfl, b1⟩
  have lf := firstR_len h
  have hs1 := HB.out.call b1 |>.size
  have sz := b1.size
  rw [size1] at sz
  have H1 := (H.below b1).alloc (.cells (ints (firstR vs)).toArray 42)
  have R1 := Has.box w1 42 lf (by omega)
  have HB1 := Lib.hid ((HB.out.call b1).alloc (.cells (ints (firstR vs)).toArray 42))
  clear H HB b1 hs1
  by_cases hv : vV vs = true
  · have KF := Lib.hid (cer_keeps h hv)
    have EN := Lib.hid (show cerN vs = filtN (cerP vs) (poursFA (firstR vs)) (poursNA (firstR vs)) by unfold cerN; rw [if_pos hv])
    have EF := Lib.hid (show cerF vs = filtF (cerP vs) (poursFA (firstR vs)) (poursNA (firstR vs)) by unfold cerF; rw [if_pos hv])
    have HV := Lib.hid hv
    have hN := poursNA_le (firstR vs)
    rw [hv]
    clear hv
    generalize hfr : firstR vs = fr at *
    go_wp2_with (first | (refine store_new rfl 42 _ _ rfl _ _ _ rfl _ rfl _ rfl rfl ?_ ?_ ?_; (· (first | assumption | rfl)); (· kernel_rfl)) | (refine load_has rfl 42 _ rfl _ rfl ?_ 24 ?_ _ Try.underlying42 rfl ?_ ?_; rotate_left; (· (repeat (first | (with_reducible assumption) | ((with_reducible refine Has.box _ _ ?_ ?_) <;> (first | assumption | decide)) | (with_reducible refine Has.alloc ?_ _) | ((with_reducible refine Has.putOther ?_ _ _ ?_); rotate_left; omega; skip) | ((with_reducible refine Has.below ?_ ?_); rotate_left; assumption)))); (· kernel_rfl)))
    refine (implPours fr _ lf).mono ?_
    rintro e w3 ⟨pv, rfl, q3, b3⟩
    have hs := b3.size
    rw [size1] at hs q3
    have R3 := Lib.hid q3.rw
    have H3 := H1.below b3
    have HB3 := Lib.hid (HB1.out.call b3)
    clear H1 R1 HB1 b3 q3
    go_wp2_with (refine load_has rfl 28 _ rfl _ rfl ?_ 18 ?_ _ Try.underlying28 rfl ?_ ?_; rotate_left; (· (repeat (first | (with_reducible assumption) | ((with_reducible refine Has.box _ _ ?_ ?_) <;> (first | assumption | decide)) | (with_reducible refine Has.alloc ?_ _) | ((with_reducible refine Has.putOther ?_ _ _ ?_); rotate_left; omega; skip) | ((with_reducible refine Has.below ?_ ?_); rotate_left; assumption)))); (· kernel_rfl))
    have D := deleteKeep_any vs (poursFA fr) (cerP vs) (w1.heap.size + 1) (poursNA fr) pv w3 (by omega) (by omega) KF.out R3.out
    rw [row_ints] at D
    refine D.mono ?_
    rintro e w4 ⟨v', rfl, r4, b4⟩
    have R4 := Lib.hid (r4.mono (b' := w.heap.size + 1) (by omega))
    have HB4 := Lib.hid (Below.trans HB3.out (b4.mono (by omega)))
    clear D r4 b4 H3 HB3 R3
    go_wp2_with fail
    go_ret2
    exact ⟨v', by rw [HV.out]; rfl, by rw [EN.out, EF.out]; exact R4.out, HB4.out⟩
  · have hf : vV vs = false := by simpa using hv
    have EN := Lib.hid (show cerN vs = 0 by unfold cerN; rw [if_neg hv])
    have EF := Lib.hid (show cerF vs = [] by unfold cerF; rw [if_neg hv])
    have HV := Lib.hid hf
    rw [hf]
    clear hf hv
    generalize firstR vs = fr at *
    go_wp2_with (refine store_new rfl 42 _ _ rfl _ _ _ rfl _ rfl _ rfl rfl ?_ ?_ ?_; (· (first | assumption | rfl)); (· kernel_rfl))
    go_ret2
    exact ⟨_, by rw [HV.out]; rfl, by rw [EN.out, EF.out]; exact ⟨rfl, .inl ⟨rfl, _, _, rfl⟩⟩, HB1.out.alloc _⟩
end Go.Proofs.Ytemiljokdedidac.base
