/-
  The exact law of GardensBefore, walked.
-/
import Derived.Test.YthnkfdhnbafcjabGdnS
import Derived.Test.YthnkfdhnbafcjabGdnI
import Derived.Test.YthnkfdhnbafcjabRbL
import Derived.Test.YthnkfdhnbafcjabRackTo
namespace Go.Proofs.Ythnkfdhnbafcjab.base
open Go.ChangeShapes Go.WideShapes Go.ChangeAt Go.RowKit
set_option linter.unusedVariables false
set_option linter.unusedSimpArgs false

set_option maxHeartbeats 1600000 in
set_option maxRecDepth 100000 in
theorem lawGardensBefore (ns : List Int) (w : World) (h0 : ns.length = 24 ∧ ∀ n ∈ ns, (Lit.int .i64 n).wf = true) :
    Calls Try.prog 7 #[row ns] w fun e w' => e = .returned (.bool true) ∧ Kept w w' := by
  have h24 := h0.1
  clear h0
  have hN : (gdA ns).length ≤ 144 := gdA_le h24
  have HLN : Hid (∀ l, l = gdA ns → l.length ≤ 1048576) := Lib.hid (by rintro l rfl; omega)
  have HB := Lib.hid ((kept_refl w).alloc (.cells (ints ns).toArray 25))
  have H := Has.box w 25 h24 (by omega)
  rw [row_ints]
  go_enter Try.func7, Try.ntmps7
  go_wp2_with (refine load_has rfl 25 _ rfl _ rfl ?_ 24 ?_ _ Try.underlying25 rfl ?_ ?_; rotate_left; (· (repeat (first | (with_reducible assumption) | ((with_reducible refine Has.box _ _ ?_ ?_) <;> (first | assumption | decide)) | (with_reducible refine Has.alloc ?_ _) | ((with_reducible refine Has.putOther ?_ _ _ ?_); rotate_left; omega; skip) | ((with_reducible refine Has.below ?_ ?_); rotate_left; assumption)))); (· kernel_rfl))
  refine (toRack_any ns _ h24).mono ?_
  rintro e w1 ⟨rfl, b1⟩
  have H1 := H.below b1
  have HB1 := Lib.hid (HB.out.call b1)
  clear H HB b1
  go_wp2_with fail
  refine (specGardensBefore ns _ h24).mono ?_
  rintro e w2 ⟨v1, rfl, q1, b2⟩
  have H2 := H1.below b2
  have HB2 := Lib.hid (HB1.out.call b2)
  have Q1 := Lib.hid q1
  clear H1 HB1 b2 q1
  go_wp2_with (refine load_has rfl 25 _ rfl _ rfl ?_ 24 ?_ _ Try.underlying25 rfl ?_ ?_; rotate_left; (· (repeat (first | (with_reducible assumption) | ((with_reducible refine Has.box _ _ ?_ ?_) <;> (first | assumption | decide)) | (with_reducible refine Has.alloc ?_ _) | ((with_reducible refine Has.putOther ?_ _ _ ?_); rotate_left; omega; skip) | ((with_reducible refine Has.below ?_ ?_); rotate_left; assumption)))); (· kernel_rfl))
  refine (toRack_any ns _ h24).mono ?_
  rintro e w3 ⟨rfl, b3⟩
  have H3 := H2.below b3
  have HB3 := Lib.hid (HB2.out.call b3)
  have Q2 := Lib.hid (Q1.out.below b3)
  clear H2 HB2 b3 Q1
  go_wp2_with fail
  refine (implGardensBefore ns _ h24).mono ?_
  rintro e w4 ⟨v2, rfl, r1, b4⟩
  have H4 := H3.below b4
  have HB4 := Lib.hid (HB3.out.call b4)
  have Q3 := Lib.hid (Q2.out.below b4)
  have R1 := Lib.hid r1
  clear H3 HB3 b4 Q2 r1
  go_wp2_with fail
  refine (eqRackS_same v2 v1 _ _ (gdA ns) _ (by omega) R1.out Q3.out).mono ?_
  rintro e w5 ⟨rfl, b5⟩
  have H5 := H4.below b5
  have HB5 := Lib.hid (HB4.out.call b5)
  have Q4 := Lib.hid (Q3.out.below b5)
  obtain ⟨a2, c2, rfl⟩ := R1.out.shape
  clear H4 HB4 b5 Q3 R1
  generalize (gdA ns).length = N at *
  go_wp2_with fail
  refine (markRackS_any a2 N c2 1 _ (by omega)).mono ?_
  rintro e w' ⟨rfl, rfl⟩
  go_wp2_with fail
  refine (heldRackS_any a2 N c2 1 _ (by omega)).mono ?_
  rintro e w' ⟨rfl, rfl⟩
  go_wp2_with (refine load_has rfl 25 _ rfl _ rfl ?_ 24 ?_ _ Try.underlying25 rfl ?_ ?_; rotate_left; (· (repeat (first | (with_reducible assumption) | ((with_reducible refine Has.box _ _ ?_ ?_) <;> (first | assumption | decide)) | (with_reducible refine Has.alloc ?_ _) | ((with_reducible refine Has.putOther ?_ _ _ ?_); rotate_left; omega; skip) | ((with_reducible refine Has.below ?_ ?_); rotate_left; assumption)))); (· kernel_rfl))
  refine (toRack_any ns _ h24).mono ?_
  rintro e w7 ⟨rfl, b7⟩
  have HB7 := Lib.hid (HB5.out.call b7)
  have Q6 := Lib.hid (Q4.out.below b7)
  clear H5 HB5 b7 Q4
  go_wp2_with fail
  refine (implGardensBefore ns _ h24).mono ?_
  rintro e w8 ⟨v3, rfl, t1, b8⟩
  have HB8 := Lib.hid (HB7.out.call b8)
  have Q7 := Lib.hid (Q6.out.below b8)
  have T1 := Lib.hid t1
  clear HB7 b8 Q6 t1
  go_wp2_with fail
  refine (eqRackS_same v3 v1 _ _ (gdA ns) _ (HLN.out _ rfl) T1.out Q7.out).mono ?_
  rintro e w9 ⟨rfl, b9⟩
  have HB9 := Lib.hid (HB8.out.call b9)
  clear HB8 b9 Q7 T1
  go_wp2_with fail
  refine (heldRackS_any a2 N c2 1 _ (by omega)).mono ?_
  rintro e w' ⟨rfl, rfl⟩
  go_wp2_with fail
  go_ret
  exact ⟨rfl, HB9.out⟩
end Go.Proofs.Ythnkfdhnbafcjab.base
