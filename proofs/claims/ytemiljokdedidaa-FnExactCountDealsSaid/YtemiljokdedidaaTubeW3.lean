/-
  Which tubes and racks are valid: the program's check, walked.
-/
import Derived.Test.YtemiljokdedidaaTubeW2
import Derived.Laws.EntriesVeiled
namespace Go.Proofs.Ytemiljokdedidaa.base
open Go.ChangeShapes Go.WideShapes Go.ChangeAt Go.RowKit
set_option linter.unusedVariables false
set_option linter.unusedSimpArgs false

theorem noGap_false (t : List Int) (k : Nat) (h1 : 1 ≤ k) (h4 : k < 4) (h : t.getD k 0 ≠ 0 ∧ t.getD (k - 1) 0 = 0) : noGap t = false := by
  have hg : gapAt t k = true := decide_eq_true h
  unfold noGap
  have : k = 1 ∨ k = 2 ∨ k = 3 := by omega
  rcases this with rfl | rfl | rfl <;> simp [hg]
theorem noGap_true (t : List Int) (h : ∀ j, 1 ≤ j → j < 4 → ¬ (t.getD j 0 ≠ 0 ∧ t.getD (j - 1) 0 = 0)) : noGap t = true := by
  have hg : ∀ j, 1 ≤ j → j < 4 → gapAt t j = false := fun j a b => decide_eq_false (h j a b)
  unfold noGap
  rw [hg 1 (by omega) (by omega), hg 2 (by omega) (by omega), hg 3 (by omega) (by omega)]; rfl

theorem l1In_any (x a b : Int) (w : World) :
    Calls Try.prog 42 #[.int .i64 x, .int .i64 a, .int .i64 b] w fun e w' => e = .returned (.bool (decide (a ≤ x ∧ x ≤ b))) ∧ w = w' := by
  by_cases h0 : a ≤ x
  · go_enter Try.func42, Try.ntmps42
    go_wp2_with fail
    go_ret
    exact ⟨ret_bool (by simp [h0]), rfl⟩
  · have h1 := Lib.hid h0
    have q : decide (a ≤ x) = false := by simpa using h0
    clear h0
    go_enter Try.func42, Try.ntmps42
    go_wp2_with fail
    go_ret
    exact ⟨ret_bool (by have := h1.out; simp; try omega), rfl⟩
theorem l2Place_any (i : Int) (w : World) :
    Calls Try.prog 41 #[.int .i64 i] w fun e w' => e = .returned (.bool (decide (0 ≤ i ∧ i < 6))) ∧ w = w' := by
  go_enter Try.func41, Try.ntmps41
  go_wp2_with fail
  refine (l1In_any i 0 5 _).mono ?_
  rintro e w' ⟨rfl, rfl⟩
  go_wp2_with fail
  go_ret
  exact ⟨ret_bool (by rw [Bool.eq_iff_iff]; simp; omega), rfl⟩

def badAt (t : List Int) (k : Nat) : Prop := ¬ (0 ≤ t.getD k 0 ∧ t.getD k 0 ≤ 5) ∨ (0 < k ∧ 0 < t.getD k 0 ∧ t.getD (k - 1) 0 = 0)
theorem known_iff {t : List Int} (h4 : t.length = 4) : known t = true ↔ ∀ k, k < 4 → 0 ≤ t.getD k 0 ∧ t.getD k 0 ≤ 5 := by
  obtain ⟨a, b, c, d, rfl⟩ := len4 h4
  simp only [known, List.all_cons, List.all_nil, Bool.and_eq_true, decide_eq_true_eq, and_true]
  constructor
  · rintro ⟨h0, h1, h2, h3⟩ k hk
    match k, hk with
    | 0, _ => exact h0
    | 1, _ => exact h1
    | 2, _ => exact h2
    | 3, _ => exact h3
  · intro h
    exact ⟨h 0 (by omega), h 1 (by omega), h 2 (by omega), h 3 (by omega)⟩
theorem vT_good {t : List Int} (h4 : t.length = 4) (h : ∀ k, k < 4 → ¬ badAt t k) : vT t = true := by
  have hk : known t = true := (known_iff h4).2 fun k hk => Decidable.byContradiction fun hn => h k hk (.inl hn)
  unfold vT
  rw [hk, Bool.true_and]
  exact noGap_true t fun j a b hg => h j b (.inr ⟨a, by have := ((known_iff h4).1 hk j b).1; omega, hg.2⟩)
theorem vT_bad {t : List Int} (h4 : t.length = 4) (k : Nat) (hk : k < 4) (h : badAt t k) : vT t = false := by
  unfold vT
  rcases h with h | ⟨h0, h1, h2⟩
  · have : known t = false := by
      cases hb : known t with
      | false => rfl
      | true => exact absurd ((known_iff h4).1 hb k hk) h
    rw [this]; rfl
  · rw [noGap_false t k h0 hk ⟨by omega, h2⟩, Bool.and_false]

/-- How far the two rules have been asked. -/
def RuleAt (t : List Int) (g : Nat) (j : Value) : Prop := (g = 2 ∧ j = .int .i64 0) ∨ (g = 1 ∧ j = .int .i64 1 ∧ known t = true) ∨ (g = 0 ∧ j = .int .i64 2 ∧ vT t = true)
end Go.Proofs.Ytemiljokdedidaa.base
