/-
  The model's text of a number, walked: it is the decimal numeral of that number, for every number of 64 bits.
-/
import Derived.Test.YtalngdccjoafhabProg
import Derived.WalkKit
import Derived.ProofKit
import Derived.WalkLawsBesides
import Derived.WalkSpells
import Derived.Lib.Hide
import Derived.Lib.ItoaNum
import Derived.Deep.QuietTactic
import Derived.BigQuiet
import Derived.Outline
import Derived.Lib.ItoaLen
import Derived.Laws.Concat
import Derived.IntWalk
namespace Go.Proofs.Ytalngdccjoafhab.num
open Go.ChangeShapes Go.WideShapes Go.ChangeAt Go.RowKit
set_option linter.unusedVariables false
set_option linter.unusedSimpArgs false

theorem ret_str {a b : ByteArray} (h : a = b) : Ending.returned (.string a) = .returned (.string b) := by rw [h]

def digitOf (i : Nat) : UInt8 := UInt8.ofNat (48 + i)
def tenDigits : ByteArray := ⟨#[48, 49, 50, 51, 52, 53, 54, 55, 56, 57]⟩
theorem digit_fin : ∀ i : Fin 10, tenDigits.extract i.val (i.val + 1) = ⟨#[UInt8.ofNat (48 + i.val)]⟩ := by decide +kernel
theorem digit_at (i : Nat) (h : i < 10) : tenDigits.extract i (i + 1) = ⟨#[UInt8.ofNat (48 + i)]⟩ := digit_fin ⟨i, h⟩
theorem digit_dec (i : Nat) (h : i < 10) : tenDigits.extract i (i + 1) = ⟨(Lib.decDigits i).toArray⟩ := by
  rw [digit_at i h, Lib.decDigits, dif_pos h]

theorem dec_snoc (m : Nat) (h : ¬ m < 10) : (⟨(Lib.decDigits (m / 10)).toArray⟩ ++ ⟨#[digitOf (m % 10)]⟩ : ByteArray) = ⟨(Lib.decDigits m).toArray⟩ := by
  rw [Lib.decDigits.eq_1 m, dif_neg h, ByteArray.mk_append_mk]; simp [digitOf]

theorem l1Num_small (n : Int) (w : World) (h0 : 0 ≤ n) (hn : n < 10) :
    Calls Try.prog 75 #[.int .i64 n] w fun e w' => e = .returned (.string ⟨(Lib.decDigits n.toNat).toArray⟩) ∧ w' = w := by
  obtain ⟨m, rfl⟩ := Int.eq_ofNat_of_zero_le h0
  have hz : ¬ (m : Int) < 0 := by omega
  go_enter Try.func75, Try.ntmps75
  go_wp2_with fail
  go_ret
  exact ⟨ret_str (digit_dec m (by omega)), rfl⟩

theorem l1Num_pos (k : Nat) : ∀ (n : Int) (w : World), n ≤ k → 0 ≤ n → n ≤ 9223372036854775807 →
    Calls Try.prog 75 #[.int .i64 n] w fun e w' => e = .returned (.string ⟨(Lib.decDigits n.toNat).toArray⟩) ∧ ∃ d, w' = w.drewN d := by
  induction k with
  | zero =>
    intro n w hk h0 _
    exact (l1Num_small n w h0 (by omega)).mono fun _ _ ⟨h1, h2⟩ => ⟨h1, 0, h2⟩
  | succ k ih =>
    intro n w hk h0 h63
    by_cases hn : n < 10
    · exact (l1Num_small n w h0 hn).mono fun _ _ ⟨h1, h2⟩ => ⟨h1, 0, h2⟩
    · obtain ⟨m, rfl⟩ := Int.eq_ofNat_of_zero_le h0
      have hz : ¬ (m : Int) < 0 := by omega
      have HI := Lib.hid (fun W => ih ((m : Int) / 10) W (by omega) (by omega) (by omega)); clear ih
      have e1 : IntKind.i64.wrap ((m : Int) / 10) = (m : Int) / 10 := IntWalk.i64_in _ (by omega)
      have e2 : (m : Int).tmod 10 = (m : Int) % 10 := Int.tmod_eq_emod_of_nonneg (by omega)
      have e3 : IntKind.i64.wrap ((m : Int) % 10 + 1) = (m : Int) % 10 + 1 := IntWalk.i64_in _ (by omega)
      have e4 : ((m : Int) % 10).toNat = m % 10 := by omega
      have e5 : ((m : Int) % 10 + 1).toNat = m % 10 + 1 := by omega
      have g1 : 0 ≤ (m : Int) % 10 := by omega
      have g2 : (m : Int) % 10 + 1 ≤ 10 := by omega
      have g3 : (m : Int) % 10 ≤ (m : Int) % 10 + 1 := by omega
      have e6 : ((m : Int) / 10).toNat = m / 10 := by omega
      have e7 : (⟨#[48, 49, 50, 51, 52, 53, 54, 55, 56, 57]⟩ : ByteArray).extract (m % 10) (m % 10 + 1) = ⟨#[digitOf (m % 10)]⟩ := digit_at _ (by omega)
      have e8 : ∀ W : World, (Op.stringOp .add ⟨(Lib.decDigits (m / 10)).toArray⟩ ⟨#[digitOf (m % 10)]⟩).run Try.prog W = .ok (.string ⟨(Lib.decDigits m).toArray⟩) W := fun W => by
        rw [run_string_add_sum, dec_snoc m (by omega)]
        have h1 := Lib.nDigits_le20 (m / 10) (by omega)
        have h2 : (⟨(Lib.decDigits (m / 10)).toArray⟩ : ByteArray).size = Lib.nDigits (m / 10) := by rw [← Lib.decDigits_length]; show (Lib.decDigits (m / 10)).toArray.size = _; simp
        rw [h2]; show _ + 1 ≤ _; omega
      go_enter Try.func75, Try.ntmps75
      go_wp2_with fail
      go_quiet ((go_at_call 75; exact Calls.quiet_of (HI.out _)))
      go_wp2
      go_ret
      exact ⟨rfl, ⟨_, rfl⟩⟩

theorem itoa_neg (m : Nat) (h : 0 < m) : Lib.itoa (-(m : Int)) = 45 :: Lib.decDigits m := by
  unfold Lib.itoa; rw [if_pos (by omega)]; simp
theorem itoa_nat (m : Nat) : Lib.itoa (m : Int) = Lib.decDigits m := by
  unfold Lib.itoa; rw [if_neg (by omega)]; simp

theorem add_minus (m : Nat) (h : m < 18446744073709551616) (W : World) :
    (Op.stringOp .add ⟨#[45]⟩ ⟨(Lib.decDigits m).toArray⟩).run Try.prog W = .ok (.string ⟨(45 :: Lib.decDigits m).toArray⟩) W := by
  rw [run_string_add_sum, ByteArray.mk_append_mk]
  · simp
  · have h1 := Lib.nDigits_le20 m h
    have h2 : (⟨(Lib.decDigits m).toArray⟩ : ByteArray).size = Lib.nDigits m := by rw [← Lib.decDigits_length]; show (Lib.decDigits m).toArray.size = _; simp
    rw [h2]; show 1 + _ ≤ _; omega

theorem add_digit (m : Nat) (h : m < 18446744073709551616) (hm : ¬ m < 10) (W : World) :
    (Op.stringOp .add ⟨(45 :: Lib.decDigits (m / 10)).toArray⟩ ⟨(Lib.decDigits (m % 10)).toArray⟩).run Try.prog W = .ok (.string ⟨(45 :: Lib.decDigits m).toArray⟩) W := by
  have hd : Lib.decDigits (m % 10) = [digitOf (m % 10)] := by rw [Lib.decDigits, dif_pos (by omega)]; rfl
  rw [run_string_add_sum, ByteArray.mk_append_mk, hd]
  · rw [Lib.decDigits.eq_1 m, dif_neg hm]; simp [digitOf]
  · have h1 := Lib.nDigits_le20 (m / 10) (by omega)
    have h2 : (⟨(45 :: Lib.decDigits (m / 10)).toArray⟩ : ByteArray).size = Lib.nDigits (m / 10) + 1 := by rw [← Lib.decDigits_length]; show (45 :: Lib.decDigits (m / 10)).toArray.size = _; simp
    rw [h2, hd]; show _ + 1 ≤ _; omega

theorem l1Num_neg_small (m : Nat) (h1 : 1 ≤ m) (h2 : m < 10) (w : World) :
    Calls Try.prog 75 #[.int .i64 (-(m : Int))] w fun e w' => e = .returned (.string ⟨(45 :: Lib.decDigits m).toArray⟩) ∧ ∃ d, w' = w.drewN d := by
  have hz : -(m : Int) < 0 := by omega
  have hz' : -10 < -(m : Int) := by omega
  have hadd := add_minus m (by omega)
  have HC := Lib.hid (fun W => l1Num_small (m : Int) W (by omega) (by omega))
  go_enter Try.func75, Try.ntmps75
  go_wp2_with fail
  refine (HC.out _).mono ?_
  rintro e w' ⟨rfl, rfl⟩
  go_wp2_with fail
  go_ret
  exact ⟨rfl, ⟨0, rfl⟩⟩

theorem l1Num_neg (k : Nat) : ∀ (m : Nat) (w : World), m ≤ k → 1 ≤ m → m ≤ 9223372036854775808 →
    Calls Try.prog 75 #[.int .i64 (-(m : Int))] w fun e w' => e = .returned (.string ⟨(45 :: Lib.decDigits m).toArray⟩) ∧ ∃ d, w' = w.drewN d := by
  induction k with
  | zero => intro m w hk h1 _; omega
  | succ k ih =>
    intro m w hk h1 h63
    by_cases hn : m < 10
    · exact l1Num_neg_small m h1 hn w
    · have hz : -(m : Int) < 0 := by omega
      have hz' : ¬ -10 < -(m : Int) := by omega
      have HI := Lib.hid (fun W => ih (m / 10) W (by omega) (by omega) (by omega)); clear ih
      have HC := Lib.hid (fun W => l1Num_small ((m % 10 : Nat) : Int) W (by omega) (by omega))
      have hadd := add_digit m (by omega) (by omega)
      have e1 : (-(m : Int)).tdiv 10 = -((m / 10 : Nat) : Int) := by rw [Int.neg_tdiv, Int.tdiv_eq_ediv_of_nonneg (by omega)]; omega
      have e2 : (-(m : Int)).tmod 10 = -((m % 10 : Nat) : Int) := by rw [Int.neg_tmod, Int.tmod_eq_emod_of_nonneg (by omega)]; omega
      go_enter Try.func75, Try.ntmps75
      go_wp2_with fail
      rw [show ((m : Int) / 10) = ((m / 10 : Nat) : Int) from by omega]
      refine (HI.out _).mono ?_
      rintro e w1 ⟨rfl, d, rfl⟩
      go_wp2_with fail
      rw [show ((m : Int) % 10) = ((m % 10 : Nat) : Int) from by omega]
      refine (HC.out _).mono ?_
      rintro e w2 ⟨rfl, rfl⟩
      rw [Int.toNat_natCast]
      go_wp2_with fail
      go_ret
      exact ⟨rfl, ⟨d, rfl⟩⟩

/-- The model's text of any number of 64 bits is its decimal numeral; the world has drawn, and nothing else. -/
theorem l1Num_any (n : Int) (w : World) (h0 : -9223372036854775808 ≤ n) (h1 : n ≤ 9223372036854775807) :
    Calls Try.prog 75 #[.int .i64 n] w fun e w' => e = .returned (.string ⟨(Lib.itoa n).toArray⟩) ∧ ∃ d, w' = w.drewN d := by
  by_cases h : 0 ≤ n
  · obtain ⟨m, rfl⟩ := Int.eq_ofNat_of_zero_le h
    rw [itoa_nat]
    exact l1Num_pos m (m : Int) w (by omega) h h1
  · obtain ⟨m, rfl⟩ : ∃ m : Nat, n = -(m : Int) := ⟨n.natAbs, by omega⟩
    rw [itoa_neg m (by omega)]
    exact l1Num_neg m m w (Nat.le_refl _) (by omega) (by omega)
end Go.Proofs.Ytalngdccjoafhab.num
