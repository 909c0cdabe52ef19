/-
  The law on AppendChecksum answers true: both functions answer the same.
  Condition: the library's table of powers of ten holds what its initialiser lays (the card ties it).
-/
import Derived.Test.YtbjahiebajgfeaaDoorRows
import Derived.Test.YtbjahiebajgfeaaDoorSeal
namespace Go.Proofs.YtbjahiebajgfeaaDoor.num
open Go.ChangeShapes Go.WideShapes Go.ChangeAt Go.RowKit
set_option linter.unusedVariables false

theorem lawAppend (s : ByteArray) (w : World) (hs : s.size ≤ maxLen) (hp : base.Pow w) :
    Calls Tryd.prog 6 #[.string s] w fun e w' => e = .returned (.bool true) ∧ Below w.heap.size w w' := by
  by_cases h0 : (1048576 : Int) < (s.size : Int)
  · clear hp
    go_enter Tryd.func6, Tryd.ntmps6
    go_wp2_with fail
    go_ret
    exact ⟨rfl, Below.refl _ _⟩
  · have HS := Lib.hid (fun W => specAppend_any s W)
    have HM := Lib.hid (fun W T => implAppend_any s W T)
    have HP := Lib.hid hp
    clear hp
    generalize appS s = q at *
    generalize appB s = b at *
    go_enter Tryd.func6, Tryd.ntmps6
    go_wp2_with fail
    refine (HS.out _).mono ?_
    rintro e w1 ⟨rfl, hb1⟩
    go_wp2_with fail
    refine (HM.out _ (HP.out.below hb1)).mono ?_
    rintro e w2 ⟨rfl, hb2⟩
    go_wp2_with fail
    go_ret
    exact ⟨rfl, hb1.trans (hb2.mono hb1.size)⟩

theorem appendLaw (a0 : ByteArray) (W : World) (w0 : a0.size ≤ maxLen) (hL : laidMetH Tryd.prog Rows.fnExactAppendChecksumRow.laid W) :
    Calls Tryd.prog 6 #[.string a0] W fun e w' => e = .returned (.bool true) ∧ Below W.heap.size W w' :=
  lawAppend a0 W w0 (base.pow_of_laid (laid := Rows.fnExactAppendChecksumRow.laid) (by simp [Rows.fnExactAppendChecksumRow]; rfl) hL)
end Go.Proofs.YtbjahiebajgfeaaDoor.num
