/-
  The exact law of IsGoodPath, walked.
-/
import Derived.Test.YtmodkllhdeknoabPathI
import Derived.Test.YtmodkllhdeknoabPairs
import Derived.Test.YtmodkllhdeknoabRackTo
namespace Go.Proofs.Ytmodkllhdeknoab.base
open Go.ChangeShapes Go.WideShapes Go.ChangeAt Go.RowKit
set_option linter.unusedVariables false
set_option linter.unusedSimpArgs false

set_option maxHeartbeats 1600000 in
set_option maxRecDepth 100000 in
theorem lawIsGoodPath (ns : List Int) (a : Option Addr) (len cap : Nat) (zs : List Int) (w : World) (h0 : ns.length = 24 ∧ ∀ n ∈ ns, (Lit.int .i64 n).wf = true) (hp : IsPairs w a len zs) :
    Calls Try.prog 6 #[row ns, .slice a len cap] w fun e w' => e = .returned (.bool true) ∧ Kept w w' := by
  have h24 := h0.1
  clear h0
  have hml := hp.1
  have HB := Lib.hid ((kept_refl w).alloc (.cells (ints ns).toArray 25))
  have H := Has.box w 25 h24 (by omega)
  have HP := Lib.hid hp
  clear hp
  rw [row_ints]
  go_enter Try.func6, Try.ntmps6
  go_wp2_with fail
  refine (szA2S a len cap _ hml).mono ?_
  rintro e w0 ⟨⟨r, rfl, hr⟩, rfl⟩
  by_cases hneg : r < 0
  · clear hr
    go_wp2_with fail
    go_ret
    exact ⟨rfl, HB.out⟩
  · have hlen : len ≤ 1048576 := by omega
    have hneg2 : decide (r < 0) = false := by simpa using hneg
    clear hr
    go_wp2_with (refine load_has rfl 25 _ rfl _ rfl ?_ 24 ?_ _ Try.underlying25 rfl ?_ ?_; rotate_left; (· (repeat (first | (with_reducible assumption) | ((with_reducible refine Has.box _ _ ?_ ?_) <;> (first | assumption | decide)) | (with_reducible refine Has.alloc ?_ _) | ((with_reducible refine Has.putOther ?_ _ _ ?_); rotate_left; omega; skip) | ((with_reducible refine Has.below ?_ ?_); rotate_left; assumption)))); (· kernel_rfl))
    refine (toRack_any ns _ h24).mono ?_
    rintro e w1 ⟨rfl, b1⟩
    have H1 := H.below b1
    have HB1 := Lib.hid (HB.out.call b1)
    clear H HB b1
    go_wp2_with fail
    refine (toA2S a len cap zs _ (HP.out.below HB1.out) hlen).mono ?_
    rintro e w2 ⟨v2, rfl, q2, b2⟩
    have H2 := H1.below b2
    have HB2 := Lib.hid (HB1.out.call b2)
    have Q2 := Lib.hid q2
    clear H1 HB1 b2 q2
    go_wp2_with fail
    refine (specIsGood ns zs v2 len _ _ h24 hlen Q2.out.rw).mono ?_
    rintro e w3 ⟨rfl, b3⟩
    have H3 := H2.below b3
    have HB3 := Lib.hid (HB2.out.call b3)
    clear H2 HB2 b3 Q2
    go_wp2_with fail
    refine (toA2S a len cap zs _ (HP.out.below HB3.out) hlen).mono ?_
    rintro e w4 ⟨v4, rfl, q4, b4⟩
    have H4 := H3.below b4
    have HB4 := Lib.hid (HB3.out.call b4)
    have Q4 := Lib.hid q4
    clear H3 HB3 b4 q4
    go_wp2_with (refine load_has rfl 25 _ rfl _ rfl ?_ 24 ?_ _ Try.underlying25 rfl ?_ ?_; rotate_left; (· (repeat (first | (with_reducible assumption) | ((with_reducible refine Has.box _ _ ?_ ?_) <;> (first | assumption | decide)) | (with_reducible refine Has.alloc ?_ _) | ((with_reducible refine Has.putOther ?_ _ _ ?_); rotate_left; omega; skip) | ((with_reducible refine Has.below ?_ ?_); rotate_left; assumption)))); (· kernel_rfl))
    refine (toRack_any ns _ h24).mono ?_
    rintro e w5 ⟨rfl, b5⟩
    have HB5 := Lib.hid (HB4.out.call b5)
    have Q5 := Lib.hid (Q4.out.below b5)
    clear H4 HB4 b5 Q4
    go_wp2_with fail
    refine (implIsGood ns zs v4 len _ _ h24 hlen Q5.out.rw).mono ?_
    rintro e w6 ⟨rfl, b6⟩
    have HB7 := Lib.hid (HB5.out.call b6)
    have Q7 := Lib.hid (Q5.out.below b6)
    clear HB5 b6 Q5
    go_wp2_with fail
    refine (toA2S a len cap zs _ (HP.out.below HB7.out) hlen).mono ?_
    rintro e w8 ⟨v8, rfl, q8, b8⟩
    have HB8 := Lib.hid (HB7.out.call b8)
    have Q8 := Lib.hid (Q7.out.below b8)
    have P8 := Lib.hid q8
    clear HB7 b8 Q7 q8
    go_wp2_with fail
    refine (eqIntA2S_same v4 v8 _ _ len zs _ hlen Q8.out P8.out).mono ?_
    rintro e w9 ⟨rfl, b9⟩
    have HB9 := Lib.hid (HB8.out.call b9)
    clear HB8 b9
    go_wp2_with fail
    go_ret
    exact ⟨rfl, HB9.out⟩
end Go.Proofs.Ytmodkllhdeknoab.base
