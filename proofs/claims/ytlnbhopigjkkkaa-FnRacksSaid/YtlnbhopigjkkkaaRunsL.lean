/-
  RunsOf on both sides, walked.
-/
import Derived.Test.YtlnbhopigjkkkaaRunsI
import Derived.Test.YtlnbhopigjkkkaaDoors
namespace Go.Proofs.Ytlnbhopigjkkkaa.base
open Go.ChangeShapes Go.WideShapes Go.ChangeAt Go.RowKit
set_option linter.unusedVariables false
set_option linter.unusedSimpArgs false

def runsFA (ns : List Int) (i : Int) : List Int := if inR ns i = true then runsF (tubA ns i) (lay (tubA ns i)) else []
def runsNA (ns : List Int) (i : Int) : Nat := if inR ns i = true then runsN (tubA ns i) (lay (tubA ns i)) else 0
/-- What RunsOf returns: a new row of pairs, and whether the rack and the place are valid. -/
def RunsPost (ns : List Int) (i : Int) (w : World) (e : Ending) (w' : World) : Prop := ∃ v : Value, e = .returned (.tuple #[v, .bool (inR ns i)]) ∧ Prs w' w.heap.size v (runsNA ns i) (runsFA ns i) ∧ Kept w w'
theorem Prs.none' (w0 w : World) (K : Kept w0 w) {ns : List Int} {i : Int} (h : inR ns i = false) : Prs (w.alloc (.cells #[] 53)) w0.heap.size (.slice (some ⟨w.heap.size, 0, Option.none⟩) 0 0) (runsNA ns i) (runsFA ns i) := by
  have h' : ¬ inR ns i = true := by rw [h]; simp
  unfold runsNA runsFA
  rw [if_neg h', if_neg h']
  exact Prs.none w w0.heap.size K.size

theorem specRuns (ns : List Int) (i : Int) (w : World) (h24 : ns.length = 24) :
    Calls Try.prog 7 #[row ns, .int .i64 i] w (RunsPost ns i w) := by
  have HB := Lib.hid ((kept_refl w).alloc (.cells (ints ns).toArray 27))
  have H := Has.box w 27 h24 (by omega)
  rw [row_ints]
  go_enter Try.func7, Try.ntmps7
  go_wp2_with (refine load_has rfl 27 _ rfl _ rfl ?_ 24 ?_ _ Try.underlying27 rfl ?_ ?_; rotate_left; (· (repeat (first | (with_reducible assumption) | ((with_reducible refine Has.box _ _ ?_ ?_) <;> (first | assumption | decide)) | (with_reducible refine Has.alloc ?_ _) | ((with_reducible refine Has.putOther ?_ _ _ ?_); rotate_left; omega; skip) | ((with_reducible refine Has.below ?_ ?_); rotate_left; assumption)))); (· kernel_rfl))
  refine (l2Rack_any ns _ h24).mono ?_
  rintro e w1 ⟨rfl, b1⟩
  have H1 := H.below b1
  have HB1 := Lib.hid (HB.out.call b1)
  clear H HB b1
  by_cases hv : vR ns = true
  · rw [hv]
    have HV := Lib.hid hv
    clear hv
    go_wp2_with fail
    refine (l2Place_any i _).mono ?_
    rintro e w' ⟨rfl, rfl⟩
    by_cases hp : 0 ≤ i ∧ i < 6
    · rw [decide_eq_true hp]
      obtain ⟨p, rfl⟩ : ∃ p : Nat, i = (p : Int) := ⟨i.toNat, by omega⟩
      have hp6 : p < 6 := by omega
      have R := Lib.hid (inR_yes HV.out hp6)
      have A := Lib.hid (show runsFA ns (p : Int) = runsF (tub ns p) (lay (tub ns p)) by unfold runsFA; rw [if_pos R.out, tubA_yes R.out])
      have A2 := Lib.hid (show runsNA ns (p : Int) = runsN (tub ns p) (lay (tub ns p)) by unfold runsNA; rw [if_pos R.out, tubA_yes R.out])
      have hpi : (p : Int) < 6 := by omega
      clear hp
      go_wp2_with (refine load_tub rfl 24 _ rfl _ (p) _ rfl ?_ ?_ ?_ ?_ _ Try.underlying24 rfl ?_ ?_; (· (first | rfl | omega)); rotate_left; (· (repeat (first | (with_reducible assumption) | ((with_reducible refine Has.box _ _ ?_ ?_) <;> (first | assumption | decide)) | (with_reducible refine Has.alloc ?_ _) | ((with_reducible refine Has.putOther ?_ _ _ ?_); rotate_left; omega; skip) | ((with_reducible refine Has.below ?_ ?_); rotate_left; assumption)))); (· omega); (· kernel_rfl))
      refine (l2Runs_any (tub ns p) _ (tub_len ns p h24 hp6) (vR_tub HV.out p hp6)).mono ?_
      rintro e w2 ⟨v, rfl, q2, b2⟩
      have Q2 := Lib.hid (q2.mono HB1.out.size)
      have HB2 := Lib.hid (HB1.out.call b2)
      clear b2 q2
      go_wp2_with fail
      go_ret2
      exact ⟨v, by rw [R.out]; rfl, by rw [A.out, A2.out]; exact Q2.out, HB2.out⟩
    · rw [decide_eq_false hp]
      have R := Lib.hid (inR_not (ns := ns) (i := i) fun h => hp h.2)
      clear hp
      go_wp2_with fail
      go_ret2
      exact ⟨_, by rw [R.out]; rfl, Prs.none' w _ HB1.out R.out, HB1.out.alloc _⟩
  · have hf : vR ns = false := by simpa using hv
    have R := Lib.hid (inR_not (ns := ns) (i := i) fun h => hv h.1)
    rw [hf]
    clear hf hv
    go_wp2_with fail
    go_ret2
    exact ⟨_, by rw [R.out]; rfl, Prs.none' w _ HB1.out R.out, HB1.out.alloc _⟩

theorem implRuns (ns : List Int) (i : Int) (w : World) (h24 : ns.length = 24) :
    Calls Try.prog 6 #[row ns, .int .i64 i] w (RunsPost ns i w) := by
  have HB := Lib.hid ((kept_refl w).alloc (.cells (ints ns).toArray 27))
  have H := Has.box w 27 h24 (by omega)
  rw [row_ints]
  go_enter Try.func6, Try.ntmps6
  go_wp2_with (refine load_has rfl 27 _ rfl _ rfl ?_ 24 ?_ _ Try.underlying27 rfl ?_ ?_; rotate_left; (· (repeat (first | (with_reducible assumption) | ((with_reducible refine Has.box _ _ ?_ ?_) <;> (first | assumption | decide)) | (with_reducible refine Has.alloc ?_ _) | ((with_reducible refine Has.putOther ?_ _ _ ?_); rotate_left; omega; skip) | ((with_reducible refine Has.below ?_ ?_); rotate_left; assumption)))); (· kernel_rfl))
  refine (tubeAt_any ns i _ h24).mono ?_
  rintro e w1 ⟨rfl, b1⟩
  have HB1 := Lib.hid ((HB.out.call b1).alloc (.cells (ints (tubA ns i)).toArray 54))
  have h4 := tubA_len h24 i
  clear H HB b1
  by_cases hR : inR ns i = true
  · rw [hR]
    have hv := (inR_of hR).1
    have hvt : vT (tubA ns i) = true := by
      obtain ⟨p, rfl, hp6⟩ := (inR_of hR).2
      rw [tubA_yes hR]; exact vR_tub hv p hp6
    have A := Lib.hid (show runsFA ns i = runsF (tubA ns i) (lay (tubA ns i)) by unfold runsFA; rw [if_pos hR])
    have A2 := Lib.hid (show runsNA ns i = runsN (tubA ns i) (lay (tubA ns i)) by unfold runsNA; rw [if_pos hR])
    have HR := Lib.hid hR
    clear hR hv
    generalize tubA ns i = t at *
    go_wp2_with (first | (refine store_new rfl 54 _ _ rfl _ _ _ rfl _ rfl _ rfl rfl ?_ ?_ ?_; (· (first | assumption | rfl)); (· kernel_rfl)) | (refine load_has rfl 54 _ rfl _ rfl ?_ 4 ?_ _ Try.underlying54 rfl ?_ ?_; rotate_left; (· (repeat (first | (with_reducible assumption) | ((with_reducible refine Has.box _ _ ?_ ?_) <;> (first | assumption | decide)) | (with_reducible refine Has.alloc ?_ _) | ((with_reducible refine Has.putOther ?_ _ _ ?_); rotate_left; omega; skip) | ((with_reducible refine Has.below ?_ ?_); rotate_left; assumption)))); (· kernel_rfl)))
    refine (runs_any t _ h4 hvt).mono ?_
    rintro e w2 ⟨v, rfl, q2, b2⟩
    have Q2 := Lib.hid (q2.mono HB1.out.size)
    have HB2 := Lib.hid (HB1.out.call b2)
    clear b2 q2
    go_wp2_with fail
    go_ret2
    exact ⟨v, by rw [HR.out]; rfl, by rw [A.out, A2.out]; exact Q2.out, HB2.out⟩
  · have hf : inR ns i = false := by simpa using hR
    have HR := Lib.hid hf
    rw [hf]
    clear hf hR
    generalize tubA ns i = t at *
    go_wp2_with (refine store_new rfl 54 _ _ rfl _ _ _ rfl _ rfl _ rfl rfl ?_ ?_ ?_; (· (first | assumption | rfl)); (· kernel_rfl))
    go_ret2
    exact ⟨.slice (some ⟨w1.heap.size + 1, 0, none⟩) 0 0, by rw [HR.out]; rfl, by have := Prs.none' w _ HB1.out HR.out; rwa [size1] at this, HB1.out.alloc _⟩
end Go.Proofs.Ytlnbhopigjkkkaa.base
