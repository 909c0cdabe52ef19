/-
  A byte of a code, or a number in its place; exclusive or of a byte with another one that is not 0.
-/
import Derived.Test.YtbjahiebajgfeaaDoorDraw
namespace Go.Proofs.YtbjahiebajgfeaaDoor.base
open Go.ChangeShapes Go.WideShapes Go.ChangeAt Go.RowKit
set_option linter.unusedVariables false

theorem vAt_any (a : Option Addr) (len cap : Nat) (i : Nat) (w : World) (h : Code w a len) (hi : i ≤ 1000) :
    ∃ z : Int, 0 ≤ z ∧ z < 256 ∧ Calls Tryd.prog 19 #[.slice a len cap, .int .i64 (i : Int)] w fun e w' => e = .returned (.int .i64 z) ∧ w' = w := by
  by_cases hl : (i : Int) < (len : Int)
  · rcases h with ⟨h1, h2 | ⟨b, off, rfl, hb, hj⟩⟩
    · omega
    · obtain ⟨z, hz, z0, z1⟩ := hj i (by omega)
      clear hj
      refine ⟨z, z0, z1, ?_⟩
      go_enter Tryd.func19, Tryd.ntmps19
      go_wp2_with fail
      go_ret
      exact ⟨rfl, rfl⟩
  · have := h.1
    clear h
    refine ⟨((i : Int) * 7 + (len : Int)) % 256, by omega, by omega, ?_⟩
    go_enter Tryd.func19, Tryd.ntmps19
    go_wp2_with fail
    go_ret
    exact ⟨rfl, rfl⟩

theorem xor_byte (a m : Nat) (ha : a < 256) (h0 : 0 < m) (hm : m < 256) : ∃ c : Nat, bits .xor .u8 (a : Int) (m : Int) = (c : Int) ∧ c < 256 ∧ c ≠ a := by
  refine ⟨a ^^^ m, ?_, Nat.xor_lt_two_pow (n := 8) ha hm, fun e => ?_⟩
  · have ha' : a % 2 ^ 8 = a := Nat.mod_eq_of_lt ha
    have hb' : m % 2 ^ 8 = m := Nat.mod_eq_of_lt hm
    have hx : a ^^^ m < 256 := Nat.xor_lt_two_pow (n := 8) ha hm
    have hk : IntKind.u8.bits = 8 := rfl
    simp only [bits, hk, BitVec.ofInt_natCast, BitVec.toNat_xor, BitVec.toNat_ofNat, ha', hb']
    rw [IntKind.wrap_u8]; omega
  · have e2 : a ^^^ m = a ^^^ 0 := by rw [e, Nat.xor_zero]
    have := congrArg (fun x => a ^^^ x) e2
    simp only [← Nat.xor_assoc, Nat.xor_self, Nat.zero_xor] at this
    omega
end Go.Proofs.YtbjahiebajgfeaaDoor.base
