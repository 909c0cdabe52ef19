/-
  Plain facts on decimal numerals: what the digits spell, which strings are numerals, and what the model's reader of a number answers. No program stands in this text.
-/
import Derived.Lib.AtoiAll
import Derived.Lib.Atoi
import Derived.Lib.ItoaNum
import Derived.Lib.ItoaLen
namespace Go.Proofs.YtbjahiebajgfeaaDoor.num
open Go

theorem decFrom_append (l r : List UInt8) (acc : Nat) : Lib.decFrom acc (l ++ r) = (Lib.decFrom acc l).bind fun a => Lib.decFrom a r := by
  induction l generalizing acc with
  | nil => rfl
  | cons b l ih =>
    simp only [List.cons_append, Lib.decFrom]
    cases h : Lib.digitVal b with
    | none => rfl
    | some d => exact ih _

theorem digit_nat (k : Nat) (h : k < 10) : (UInt8.ofNat (48 + k)).toNat = 48 + k := by
  simp [UInt8.toNat_ofNat]; omega

theorem digitVal_of (k : Nat) (h : k < 10) : Lib.digitVal (UInt8.ofNat (48 + k)) = some k := by
  unfold Lib.digitVal
  rw [digit_nat k h, if_pos (by omega)]
  congr 1; omega

theorem decFrom_dec (n : Nat) : Lib.decFrom 0 (Lib.decDigits n) = some n := by
  induction n using Nat.strongRecOn with
  | _ n ih =>
    rw [Lib.decDigits]
    by_cases h : n < 10
    · rw [dif_pos h]; simp only [Lib.decFrom, digitVal_of n h]; simp
    · rw [dif_neg h, decFrom_append, ih (n / 10) (by omega)]
      simp only [Option.bind_some, Lib.decFrom, digitVal_of (n % 10) (by omega)]
      congr 1; omega

theorem dec_bytes (n : Nat) : ∀ b ∈ Lib.decDigits n, 48 ≤ b.toNat ∧ b.toNat ≤ 57 := by
  induction n using Nat.strongRecOn with
  | _ n ih =>
    rw [Lib.decDigits]
    by_cases h : n < 10
    · rw [dif_pos h]; intro b hb
      rw [List.mem_singleton] at hb; subst hb; rw [digit_nat n h]; omega
    · rw [dif_neg h]; intro b hb
      rcases List.mem_append.1 hb with hb | hb
      · exact ih (n / 10) (by omega) b hb
      · rw [List.mem_singleton] at hb; subst hb; rw [digit_nat _ (by omega)]; omega

theorem parse_append (l r : List UInt8) : ∀ (acc v : Nat), Lib.parseUint10 acc l = .ok v → Lib.parseUint10 acc (l ++ r) = Lib.parseUint10 v r := by
  induction l with
  | nil => intro acc v h; simp only [Lib.parseUint10, Lib.NumEnd.ok.injEq] at h; subst h; rfl
  | cons c l ih =>
    intro acc v h
    simp only [List.cons_append, Lib.parseUint10] at h ⊢
    by_cases h1 : 48 ≤ c.toNat ∧ c.toNat ≤ 57
    · rw [if_pos h1] at h ⊢
      by_cases h2 : 1844674407370955162 ≤ acc
      · rw [if_pos h2] at h; cases h
      · rw [if_neg h2] at h ⊢
        by_cases h3 : 18446744073709551616 ≤ acc * 10 + (c.toNat - 48)
        · rw [if_pos h3] at h; cases h
        · rw [if_neg h3] at h ⊢; exact ih _ _ h
    · rw [if_neg h1] at h; cases h

theorem parse_dec (n : Nat) (hn : n < 18446744073709551616) : Lib.parseUint10 0 (Lib.decDigits n) = .ok n := by
  induction n using Nat.strongRecOn with
  | _ n ih =>
    rw [Lib.decDigits]
    by_cases h : n < 10
    · rw [dif_pos h]; simp only [Lib.parseUint10]
      rw [digit_nat n h, if_pos (by omega), if_neg (by omega), if_neg (by omega)]
      congr 1; omega
    · rw [dif_neg h, parse_append _ _ _ _ (ih (n / 10) (by omega) (by omega))]
      simp only [Lib.parseUint10]
      rw [digit_nat _ (by omega), if_pos (by omega), if_neg (by omega), if_neg (by omega)]
      congr 1; omega

theorem dec_ne (n : Nat) : Lib.decDigits n ≠ [] := by
  intro h; have := Lib.decDigits_length n; rw [h] at this; have := Lib.nDigits_pos n; simp at *; omega

theorem itoa_nonneg (n : Int) (h : 0 ≤ n) : Lib.itoa n = Lib.decDigits n.toNat := by unfold Lib.itoa; rw [if_neg (by omega)]
theorem itoa_below (n : Int) (h : n < 0) : Lib.itoa n = 45 :: Lib.decDigits n.natAbs := by unfold Lib.itoa; rw [if_pos h]

/-- Atoi reads back what Itoa has written. -/
theorem atoi_itoa (n : Int) (h0 : -9223372036854775808 ≤ n) (h1 : n ≤ 9223372036854775807) : Lib.atoiAll (Lib.itoa n) = .ok n := by
  by_cases h : n < 0
  · rw [itoa_below n h]
    unfold Lib.atoiAll
    have e45 : (45 : UInt8).toNat = 45 := by decide
    simp only [e45]
    rw [if_pos (by decide)]
    unfold Lib.parseMag
    rw [if_neg (dec_ne _), parse_dec _ (by omega)]
    dsimp only
    rw [if_neg (by simp), if_neg (by omega), if_pos trivial]
    congr 1; omega
  · rw [itoa_nonneg n (by omega)]
    obtain ⟨c, r, hc⟩ : ∃ c r, Lib.decDigits n.toNat = c :: r := by
      cases hd : Lib.decDigits n.toNat with
      | nil => exact absurd hd (dec_ne _)
      | cons c r => exact ⟨c, r, rfl⟩
    have hb := dec_bytes n.toNat c (by rw [hc]; simp)
    rw [hc]
    unfold Lib.atoiAll
    simp only
    rw [if_neg (by omega), ← hc]
    unfold Lib.parseMag
    rw [if_neg (dec_ne _), parse_dec _ (by omega)]
    dsimp only
    rw [if_neg (by omega), if_neg (by omega), if_neg (by omega)]
    congr 1; omega

theorem itoa_inj (m n : Int) (h0 : -9223372036854775808 ≤ m ∧ m ≤ 9223372036854775807) (h1 : -9223372036854775808 ≤ n ∧ n ≤ 9223372036854775807) (h : Lib.itoa m = Lib.itoa n) : m = n := by
  have a := atoi_itoa m h0.1 h0.2
  have b := atoi_itoa n h1.1 h1.2
  rw [h, b] at a
  injection a with a
  exact a.symm

/-- A number that FormatInt writes. -/
def In (n : Int) : Prop := -999999 ≤ n ∧ n ≤ 999999

theorem nDigits6 (n : Nat) (h : n ≤ 999999) : Lib.nDigits n ≤ 6 := by
  by_cases h0 : n < 10
  · rw [Lib.nDigits_small h0]; omega
  by_cases h1 : n < 100
  · rw [Lib.nDigits_unique 1 n (by omega) (by omega)]; omega
  by_cases h2 : n < 1000
  · rw [Lib.nDigits_unique 2 n (by omega) (by omega)]; omega
  by_cases h3 : n < 10000
  · rw [Lib.nDigits_unique 3 n (by omega) (by omega)]; omega
  by_cases h4 : n < 100000
  · rw [Lib.nDigits_unique 4 n (by omega) (by omega)]; omega
  · rw [Lib.nDigits_unique 5 n (by omega) (by omega)]; omega

/-- What stands behind the sign: the model's 't'. -/
def magOf (l : List UInt8) : List UInt8 := match l with
  | 45 :: b :: r => b :: r
  | l => l

def sg (l : List UInt8) (v : Nat) : Int := if (magOf l).length < l.length then -(v : Int) else v

/-- What the model's reader of a number answers. -/
def readOf (l : List UInt8) : Option Int :=
  if 1 ≤ (magOf l).length ∧ (magOf l).length ≤ 6 then
    match Lib.decFrom 0 (magOf l) with
    | some v => if Lib.itoa (sg l v) = l then some (sg l v) else none
    | none => none
  else none

theorem magOf_dec (n : Nat) : magOf (Lib.decDigits n) = Lib.decDigits n := by
  obtain ⟨c, r, hc⟩ : ∃ c r, Lib.decDigits n = c :: r := by
    cases hd : Lib.decDigits n with
    | nil => exact absurd hd (dec_ne _)
    | cons c r => exact ⟨c, r, rfl⟩
  have hb := dec_bytes n c (by rw [hc]; simp)
  rw [hc]
  unfold magOf
  split
  · rename_i h; injection h with h _; rw [h] at hb; exact absurd hb (by decide)
  · rfl

theorem magOf_minus (n : Nat) : magOf (45 :: Lib.decDigits n) = Lib.decDigits n := by
  obtain ⟨c, r, hc⟩ : ∃ c r, Lib.decDigits n = c :: r := by
    cases hd : Lib.decDigits n with
    | nil => exact absurd hd (dec_ne _)
    | cons c r => exact ⟨c, r, rfl⟩
  rw [hc]; rfl

theorem readOf_itoa (n : Int) (h : In n) : readOf (Lib.itoa n) = some n := by
  obtain ⟨h0, h1⟩ := h
  by_cases hn : n < 0
  · rw [itoa_below n hn]
    have hl : (Lib.decDigits n.natAbs).length ≤ 6 := by rw [Lib.decDigits_length]; exact nDigits6 _ (by omega)
    have hp : 1 ≤ (Lib.decDigits n.natAbs).length := by rw [Lib.decDigits_length]; exact Lib.nDigits_pos _
    unfold readOf
    rw [magOf_minus, if_pos ⟨hp, hl⟩, decFrom_dec]
    have hs : sg (45 :: Lib.decDigits n.natAbs) n.natAbs = n := by
      unfold sg; rw [magOf_minus, if_pos (by simp)]; omega
    dsimp only
    rw [hs, itoa_below n hn, if_pos rfl]
  · rw [itoa_nonneg n (by omega)]
    have hl : (Lib.decDigits n.toNat).length ≤ 6 := by rw [Lib.decDigits_length]; exact nDigits6 _ (by omega)
    have hp : 1 ≤ (Lib.decDigits n.toNat).length := by rw [Lib.decDigits_length]; exact Lib.nDigits_pos _
    unfold readOf
    rw [magOf_dec, if_pos ⟨hp, hl⟩, decFrom_dec]
    have hs : sg (Lib.decDigits n.toNat) n.toNat = n := by
      unfold sg; rw [magOf_dec, if_neg (by omega)]; omega
    dsimp only
    rw [hs, itoa_nonneg n (by omega), if_pos rfl]

theorem readOf_some (l : List UInt8) (n : Int) (h : readOf l = some n) : In n ∧ Lib.itoa n = l := by
  unfold readOf at h
  split at h
  · rename_i hlen
    split at h
    · rename_i v hv
      have hlt := Lib.decFrom_lt _ _ _ hv
      have hp : 10 ^ (magOf l).length ≤ 10 ^ 6 := Nat.pow_le_pow_right (by decide) hlen.2
      have hv6 : v < 1000000 := by simp at hlt; omega
      split at h
      · rename_i he
        injection h with h
        subst h
        exact ⟨by unfold In sg; split <;> omega, he⟩
      · cases h
    · cases h
  · cases h

theorem readOf_none (l : List UInt8) (h : readOf l = none) (n : Int) (hn : In n) : Lib.itoa n ≠ l := by
  rintro rfl
  rw [readOf_itoa n hn] at h; cases h
end Go.Proofs.YtbjahiebajgfeaaDoor.num
