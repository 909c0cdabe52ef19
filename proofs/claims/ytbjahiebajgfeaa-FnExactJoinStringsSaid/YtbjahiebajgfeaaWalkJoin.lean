/-
  The law on JoinStrings answers true: both functions answer the same over copies of the argument, and leave their copy as it was.
  No condition beyond what can be read.
-/
import Derived.Test.YtbjahiebajgfeaaJoin
import Derived.Test.YtbjahiebajgfeaaRows
namespace Go.Proofs.Ytbjahiebajgfeaa.base
open Go.ChangeShapes Go.WideShapes Go.ChangeAt Go.RowKit
set_option linter.unusedVariables false

theorem size_le (xs : List ByteArray) (x : ByteArray) (h : x ∈ xs) : x.size ≤ sizes xs := by
  induction xs with
  | nil => cases h
  | cons y r ih =>
    unfold sizes; rw [List.map_cons, List.sum_cons]
    rcases List.mem_cons.1 h with rfl | h
    · omega
    · have := ih h; unfold sizes at this; omega

set_option maxHeartbeats 1600000 in
theorem lawJoin (a : Option Addr) (len cap : Nat) (xs : List ByteArray) (sep : ByteArray) (w : World) (h : IsStrs w a len xs ∧ xs.length ≤ maxLen ∧ ∀ x ∈ xs, x.size ≤ maxLen) (hp : sep.size ≤ maxLen) :
    Calls Try.prog 5 #[.slice a len cap, .string sep] w fun e w' => e = .returned (.bool true) ∧ Below w.heap.size w w' := by
  obtain ⟨ha, hl, hx⟩ := h
  by_cases h1 : (1048576 : Int) < (sep.size : Int)
  · clear ha hl hx
    go_enter Try.func5, Try.ntmps5
    go_wp2_with fail
    go_ret
    exact ⟨rfl, Below.refl _ _⟩
  · have HZ := Lib.hid (szS a len cap xs w ha hl hx)
    have HA := Lib.hid ha
    clear ha hl hx
    go_enter Try.func5, Try.ntmps5
    go_wp2_with fail
    refine HZ.out.mono ?_
    rintro e w0 ⟨r, rfl, rfl, (⟨rfl, _⟩ | ⟨hr, hsm⟩)⟩
    · go_wp2_with fail
      go_ret
      exact ⟨rfl, Below.refl _ _⟩
    · have hn : xs.length ≤ 1048576 := by unfold Small at hsm; omega
      have HX := Lib.hid (fun x (hx : x ∈ xs) => Nat.le_trans (size_le xs x hx) (show sizes xs ≤ 1048576 by unfold Small at hsm; omega))
      have hr' : ¬ r < 0 := by omega
      clear hsm
      go_wp2_with fail
      refine (toS a len cap xs w HA.out hn).mono ?_
      rintro e w1 ⟨v1, rfl, r1, b1⟩
      have R1 := Lib.hid r1; have B1 := Lib.hid b1; clear r1 b1
      go_wp2_with fail
      refine (specJoin_own _ v1 xs sep w1 R1.out hn HX.out hp).mono ?_
      rintro e w2 ⟨rfl, b2⟩
      have B2 := Lib.hid (B1.out.trans (b2.mono B1.out.size)); clear b2
      go_wp2_with fail
      refine (toS a len cap xs w2 (HA.out.below B2.out) hn).mono ?_
      rintro e w3 ⟨v3, rfl, r3, b3⟩
      have R3 := Lib.hid r3; have B3 := Lib.hid (B2.out.trans (b3.mono B2.out.size)); clear r3 b3
      go_wp2_with fail
      refine (implJoin_own _ v3 xs sep w3 R3.out hn HX.out hp).mono ?_
      rintro e w4 ⟨rfl, b4⟩
      have R4 := Lib.hid (row_below R3.out b4); have B4 := Lib.hid (B3.out.trans (b4.mono B3.out.size)); clear b4
      generalize joinS xs sep = js at *
      generalize joinB xs sep = jb at *
      go_wp2_with fail
      refine (toS a len cap xs w4 (HA.out.below B4.out) hn).mono ?_
      rintro e w5 ⟨v5, rfl, r5, b5⟩
      have R5 := Lib.hid r5; have R45 := Lib.hid (row_below R4.out b5); have B5 := Lib.hid (B4.out.trans (b5.mono B4.out.size)); clear r5 b5
      have HLn := Lib.hid (lists_len xs)
      go_wp2_with fail
      refine (eqS_same v3 v5 _ _ (lists xs) w5 (by rw [HLn.out]; omega) (by rw [HLn.out, lists_val]; exact R45.out) (by rw [HLn.out, lists_val]; exact R5.out)).mono ?_
      rintro e w6 ⟨rfl, d, rfl⟩
      go_wp2_with fail
      go_ret
      exact ⟨rfl, ⟨B5.out.os, B5.out.tape, B5.out.output, B5.out.size, B5.out.block⟩⟩
end Go.Proofs.Ytbjahiebajgfeaa.base
