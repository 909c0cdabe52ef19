/-
  Stuck racks, walked on both sides, and the exact law.
-/
import Derived.Test.YtemiljokdedidacUseI
import Derived.Test.YtemiljokdedidacSortSZ
import Derived.Test.YtemiljokdedidacRackTo
namespace Go.Proofs.Ytemiljokdedidac.base
open Go.ChangeShapes Go.WideShapes Go.ChangeAt Go.RowKit
set_option linter.unusedVariables false
set_option linter.unusedSimpArgs false

def stuckA (ns : List Int) : Bool := vR ns && (!sortedA ns && decide (usefNA ns = 0))

set_option maxHeartbeats 1600000 in
set_option maxRecDepth 100000 in
theorem implStuck (ns : List Int) (w : World) (h24 : ns.length = 24) :
    Calls Try.prog 55 #[row ns] w fun e w' => e = .returned (.tuple #[.bool (stuckA ns), .bool (vR ns)]) ∧ Kept w w' := by
  have HB := Lib.hid ((kept_refl w).alloc (.cells (ints ns).toArray 42))
  have H := Has.box w 42 h24 (by omega)
  rw [row_ints]
  go_enter Try.func55, Try.ntmps55
  go_wp2_with (refine load_has rfl 42 _ rfl _ rfl ?_ 24 ?_ _ Try.underlying42 rfl ?_ ?_; rotate_left; (· (repeat (first | (with_reducible assumption) | ((with_reducible refine Has.box _ _ ?_ ?_) <;> (first | assumption | decide)) | (with_reducible refine Has.alloc ?_ _) | ((with_reducible refine Has.putOther ?_ _ _ ?_); rotate_left; omega; skip) | ((with_reducible refine Has.below ?_ ?_); rotate_left; assumption)))); (· kernel_rfl))
  refine (implSorted ns _ h24).mono ?_
  rintro e w1 ⟨rfl, b1⟩
  have H1 := H.below b1
  have HB1 := Lib.hid (HB.out.call b1)
  clear H HB b1
  by_cases hv : vR ns = true
  · rw [hv]
    have HV := Lib.hid hv
    have S := Lib.hid (show stuckA ns = (!sortedA ns && decide (usefNA ns = 0)) by unfold stuckA; rw [hv]; simp)
    clear hv
    go_wp2_with (refine load_has rfl 42 _ rfl _ rfl ?_ 24 ?_ _ Try.underlying42 rfl ?_ ?_; rotate_left; (· (repeat (first | (with_reducible assumption) | ((with_reducible refine Has.box _ _ ?_ ?_) <;> (first | assumption | decide)) | (with_reducible refine Has.alloc ?_ _) | ((with_reducible refine Has.putOther ?_ _ _ ?_); rotate_left; omega; skip) | ((with_reducible refine Has.below ?_ ?_); rotate_left; assumption)))); (· kernel_rfl))
    refine (implUseful ns _ h24).mono ?_
    rintro e w2 ⟨v, rfl, q1, b2⟩
    have HB2 := Lib.hid (HB1.out.call b2)
    obtain ⟨a, cap, rfl⟩ : ∃ a cap, v = .slice a (usefNA ns) cap := by
      rcases q1.2 with ⟨h0, h1⟩ | ⟨g, cap, cur, h0, _⟩
      · exact ⟨_, _, by rw [h1]; exact h0⟩
      · exact ⟨_, _, h0⟩
    clear q1 b2 H1 HB1
    have hle := usefNA_le ns
    generalize usefNA ns = n at *
    by_cases hs : sortedA ns = true
    · rw [hs]
      have T := Lib.hid (show stuckA ns = false by rw [S.out, hs]; rfl)
      clear hs S
      go_wp2_with fail
      go_ret2
      exact ⟨by rw [HV.out, T.out]; rfl, HB2.out⟩
    · have hf : sortedA ns = false := by simpa using hs
      have T := Lib.hid (show stuckA ns = decide (n = 0) by rw [S.out, hf]; simp)
      rw [hf]
      clear hs hf S
      go_wp2_with fail
      go_ret2
      exact ⟨by rw [HV.out, T.out, show decide (n = 0) = ((n : Int) == 0) by rw [Bool.eq_iff_iff]; simp]; rfl, HB2.out⟩
  · have hf : vR ns = false := by simpa using hv
    have S := Lib.hid (show stuckA ns = false by unfold stuckA; rw [hf]; rfl)
    have T := Lib.hid (show sortedA ns = false from sorted_not hf)
    rw [hf, T.out]
    have HV := Lib.hid hf
    clear hf hv
    go_wp2_with fail
    go_ret2
    exact ⟨by rw [S.out, HV.out]; rfl, HB1.out⟩

end Go.Proofs.Ytemiljokdedidac.base
