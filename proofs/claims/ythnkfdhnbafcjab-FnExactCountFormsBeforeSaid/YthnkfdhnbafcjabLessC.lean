/-
  The library's comparing of two slices of numbers, walked.
-/
import Derived.Test.YthnkfdhnbafcjabLess
namespace Go.Proofs.Ythnkfdhnbafcjab.base
open Go.ChangeShapes Go.WideShapes Go.ChangeAt Go.RowKit
set_option linter.unusedVariables false
set_option linter.unusedSimpArgs false

def cmpIK (x y : Int) : Int := if x < y then -1 else if y < x then 1 else 0
def sgn (b : Bool) : Int := if b then -1 else 1
theorem isNaNK_any (x : Int) (w : World) : Calls Try.prog 113 #[.int .i64 x] w fun e w' => e = .returned (.bool false) ∧ w' = w := by
  go_enter Try.func113, Try.ntmps113
  go_wp2_with fail
  go_ret
  exact ⟨ret_bool (by simp), rfl⟩
theorem cmp_any (x y : Int) (w : World) : Calls Try.prog 95 #[.int .i64 x, .int .i64 y] w fun e w' => e = .returned (.int .i64 (cmpIK x y)) ∧ w' = w := by
  go_enter Try.func95, Try.ntmps95
  go_wp2_with fail
  refine (isNaNK_any x _).mono ?_
  rintro e w' ⟨rfl, rfl⟩
  go_wp2_with fail
  refine (isNaNK_any y _).mono ?_
  rintro e w' ⟨rfl, rfl⟩
  by_cases h : x < y
  · have R := Lib.hid (show cmpIK x y = -1 by unfold cmpIK; rw [if_pos h])
    go_wp2_with fail
    go_ret
    exact ⟨ret_int R.out.symm, rfl⟩
  · by_cases h2 : y < x
    · have R := Lib.hid (show cmpIK x y = 1 by unfold cmpIK; rw [if_neg h, if_pos h2])
      go_wp2_with fail
      go_ret
      exact ⟨ret_int R.out.symm, rfl⟩
    · have R := Lib.hid (show cmpIK x y = 0 by unfold cmpIK; rw [if_neg h, if_neg h2])
      go_wp2_with fail
      go_ret
      exact ⟨ret_int R.out.symm, rfl⟩
set_option maxHeartbeats 400000 in
theorem compareK_any (xs ys : List Int) (b o c p : Nat) (w : World) (hx : xs.length = 4) (hy : ys.length = 4) (hne : xs ≠ ys)
    (c1 : ∀ k, k < 4 → w.cell? ⟨b, o + k, none⟩ = some (.int .i64 (xs.getD k 0))) (c2 : ∀ k, k < 4 → w.cell? ⟨c, p + k, none⟩ = some (.int .i64 (ys.getD k 0))) :
    Calls Try.prog 75 #[.slice (some ⟨b, o, none⟩) 4 4, .slice (some ⟨c, p, none⟩) 4 4] w fun e w' => e = .returned (.int .i64 (sgn (ltL xs ys))) ∧ w' = w := by
  obtain ⟨n, hn, h1, h2⟩ := first_diff hx hy hne
  have R := Lib.hid (ltL_at n xs ys (by omega) (by omega) h1 h2)
  have H1 := Lib.hid h1
  have H2 := Lib.hid h2
  have C1 := Lib.hid c1
  have C2 := Lib.hid c2
  clear h1 h2 c1 c2 hne
  go_enter Try.func75, Try.ntmps75
  go_wp2_with fail
  go_loop [11] (fun i => ∃ k : Nat, k ≤ n ∧ i = .int .i64 k) (fun i => 4 - (intOf i).toNat)
  case atStart => exact ⟨0, by omega, rfl⟩
  case round =>
    obtain ⟨k, hk, rfl⟩ := hrel
    have hk4 : (k : Int) < 4 := by omega
    have d1 := C1.out k (by omega)
    have d2 := C2.out k (by omega)
    by_cases h : k < n
    · have e := H1.out k h
      rw [← e] at d2
      clear e
      generalize xs.getD k 0 = x at *
      go_wp2_with fail
      refine (cmp_any x x _).mono ?_
      rintro e w' ⟨rfl, rfl⟩
      have hc : cmpIK x x = 0 := by unfold cmpIK; rw [if_neg (by omega), if_neg (by omega)]
      rw [hc]
      go_wp2_with fail
      go_round
      case rel => exact ⟨k + 1, by omega, by go_num⟩
      case measure => simp [intOf]; omega
    · obtain rfl : k = n := by omega
      obtain ⟨z, hz⟩ : ∃ z : Int, z = sgn (ltL xs ys) := ⟨_, rfl⟩
      have hc : cmpIK (xs.getD k 0) (ys.getD k 0) = z := by
        rw [hz, R.out]
        have h2 := H2.out
        unfold cmpIK sgn
        by_cases hl : xs.getD k 0 < ys.getD k 0
        · rw [if_pos hl, if_pos (by simpa using hl)]
        · rw [if_neg hl, if_pos (by omega), if_neg (by simpa using hl)]
      have z0 : (z != 0) = true := by rw [hz]; cases ltL xs ys <;> rfl
      have z1 : (z == 0) = false := by rw [hz]; cases ltL xs ys <;> rfl
      have HZ := Lib.hid hz
      clear hz R H1 H2 C1 C2
      generalize xs.getD k 0 = x at *
      generalize ys.getD k 0 = y at *
      go_wp2_with fail
      refine (cmp_any _ _ _).mono ?_
      rintro e w' ⟨rfl, rfl⟩
      rw [hc]
      go_wp2_with fail
      go_ret
      exact ⟨ret_int HZ.out, rfl⟩
end Go.Proofs.Ythnkfdhnbafcjab.base
