/-
  FormatInt of the program and of the model, walked: both return the decimal numeral of a number in -999999..999999, and the empty string and false for others.
  Condition: the library's table of powers of ten holds what its initialiser lays (the card ties it).
-/
import Derived.Test.YtbjahiebajgfeaaDoorNum
import Derived.Test.YtbjahiebajgfeaaDoorShelf
import Derived.Test.YtbjahiebajgfeaaDoorLaid
import Derived.Lib.AppendIntMem
namespace Go.Proofs.YtbjahiebajgfeaaDoor.num
open Go.ChangeShapes Go.WideShapes Go.ChangeAt Go.RowKit
set_option linter.unusedVariables false

theorem emptyStr : (⟨#[]⟩ : ByteArray) = ByteArray.empty := rfl

theorem l1In_any (x a b : Int) (w : World) :
    Calls Tryd.prog 24 #[.int .i64 x, .int .i64 a, .int .i64 b] w fun e w' => e = .returned (.bool (decide (a ≤ x ∧ x ≤ b))) ∧ w = w' := by
  by_cases h : a ≤ x
  · by_cases h2 : x ≤ b
    · go_enter Tryd.func24, Tryd.ntmps24
      go_wp2
      go_ret
      exact ⟨by simp [h, h2], rfl⟩
    · go_enter Tryd.func24, Tryd.ntmps24
      go_wp2
      go_ret
      exact ⟨by simp [h2], rfl⟩
  · have h' : decide (a ≤ x) = false := by simpa using h
    go_enter Tryd.func24, Tryd.ntmps24
    go_wp2
    go_ret
    exact ⟨by simp, rfl⟩

theorem specFormat_in (n : Int) (w : World) (h1 : -999999 ≤ n) (h2 : n ≤ 999999) :
    Calls Tryd.prog 11 #[.int .i64 n] w fun e w' => e = .returned (.tuple #[.string ⟨(Lib.itoa n).toArray⟩, .bool true]) ∧ Below w.heap.size w w' := by
  have hd : decide (-999999 ≤ n ∧ n ≤ 999999) = true := by simp; omega
  have HI := Lib.hid (fun W => l1In_any n (-999999) 999999 W); rw [hd] at HI; clear hd
  have HC := Lib.hid (fun W => l1Num_any n W (by omega) (by omega))
  go_enter Tryd.func11, Tryd.ntmps11
  go_wp2_with fail
  refine (HI.out _).mono ?_
  rintro e w' ⟨rfl, rfl⟩
  go_wp2_with fail
  refine (HC.out _).mono ?_
  rintro e w' ⟨rfl, d, rfl⟩
  go_wp2_with fail
  go_ret2
  exact ⟨rfl, ⟨rfl, rfl, rfl, Nat.le_refl _, fun _ _ => rfl⟩⟩

theorem specFormat_out (n : Int) (w : World) (h : n < -999999 ∨ 999999 < n) :
    Calls Tryd.prog 11 #[.int .i64 n] w fun e w' => e = .returned (.tuple #[.string ⟨#[]⟩, .bool false]) ∧ Below w.heap.size w w' := by
  have hd : decide (-999999 ≤ n ∧ n ≤ 999999) = false := by simp; omega
  have HI := Lib.hid (fun W => l1In_any n (-999999) 999999 W); rw [hd] at HI; clear hd
  clear h
  go_enter Tryd.func11, Tryd.ntmps11
  go_wp2_with fail
  refine (HI.out _).mono ?_
  rintro e w' ⟨rfl, rfl⟩
  go_wp2_with fail
  go_ret2
  exact ⟨rfl, Below.refl _ _⟩

theorem implFormat_in (n : Int) (w : World) (h1 : -999999 ≤ n) (h2 : n ≤ 999999) (htab : base.Pow w) :
    Calls Tryd.prog 10 #[.int .i64 n] w fun e w' => e = .returned (.tuple #[.string ⟨(Lib.itoa n).toArray⟩, .bool true]) ∧ Below w.heap.size w w' := by
  have HC := Lib.hid (Tryd.strconv_Itoa n (by omega) (by omega) w htab); clear htab
  have a1 : decide (n < -999999) = false := by simp; omega
  have a2 : decide (999999 < n) = false := by simp; omega
  go_enter Tryd.func10, Tryd.ntmps10
  go_wp2_with fail
  refine HC.out.mono ?_
  rintro e w' ⟨rfl, k, os, rfl⟩
  go_wp2_with fail
  go_ret2
  exact ⟨rfl, Lib.below_grow _ _ (Nat.le_refl _) _ _⟩

theorem implFormat_out (n : Int) (w : World) (h : n < -999999 ∨ 999999 < n) :
    Calls Tryd.prog 10 #[.int .i64 n] w fun e w' => e = .returned (.tuple #[.string ⟨#[]⟩, .bool false]) ∧ Below w.heap.size w w' := by
  rcases h with h | h
  · go_enter Tryd.func10, Tryd.ntmps10
    go_wp2_with fail
    go_ret2
    exact ⟨rfl, Below.refl _ _⟩
  · have h' : decide (n < -999999) = false := by simp; omega
    go_enter Tryd.func10, Tryd.ntmps10
    go_wp2_with fail
    go_ret2
    exact ⟨rfl, Below.refl _ _⟩

theorem lawFormat (n : Int) (w : World) (htab : base.Pow w) :
    Calls Tryd.prog 4 #[.int .i64 n] w fun e w' => e = .returned (.bool true) ∧ Below w.heap.size w w' := by
  by_cases h : -999999 ≤ n ∧ n ≤ 999999
  · obtain ⟨h1, h2⟩ := h
    have HS := Lib.hid (fun W => specFormat_in n W h1 h2)
    have HT := Lib.hid htab; clear htab
    have HM := Lib.hid (fun W T => implFormat_in n W h1 h2 T)
    go_enter Tryd.func4, Tryd.ntmps4
    go_wp2_with fail
    refine (HS.out _).mono ?_
    rintro e w1 ⟨rfl, hb1⟩
    go_wp2_with fail
    refine (HM.out _ (HT.out.below hb1)).mono ?_
    rintro e w2 ⟨rfl, hb2⟩
    go_wp2_with fail
    go_ret
    exact ⟨rfl, hb1.trans (hb2.mono hb1.size)⟩
  · have h' : n < -999999 ∨ 999999 < n := by omega
    have HS := Lib.hid (fun W => specFormat_out n W h')
    have HM := Lib.hid (fun W => implFormat_out n W h')
    clear h h' htab
    go_enter Tryd.func4, Tryd.ntmps4
    go_wp2_with fail
    refine (HS.out _).mono ?_
    rintro e w1 ⟨rfl, hb1⟩
    go_wp2_with fail
    refine (HM.out _).mono ?_
    rintro e w2 ⟨rfl, hb2⟩
    go_wp2_with fail
    go_ret
    exact ⟨rfl, hb1.trans (hb2.mono hb1.size)⟩
theorem formatLaw (a0 : Int) (W : World) (w0 : (Lit.int .i64 a0).wf = true) (hL : laidMetH Tryd.prog Rows.fnExactFormatIntRow.laid W) :
    Calls Tryd.prog 4 #[.int .i64 a0] W fun e w' => e = .returned (.bool true) ∧ Below W.heap.size W w' :=
  lawFormat a0 W (base.pow_of_laid (laid := Rows.fnExactFormatIntRow.laid) (by simp [Rows.fnExactFormatIntRow]; rfl) hL)
end Go.Proofs.YtbjahiebajgfeaaDoor.num
