/-
  How many candidates have a long top: plain mathematics.
-/
import Derived.Test.YtemiljokdedidacVwM
import Derived.Test.YtemiljokdedidacCutM
import Derived.Test.YtemiljokdedidacRkM
namespace Go.Proofs.Ytemiljokdedidac.base
set_option linter.unusedVariables false
set_option linter.unusedSimpArgs false

/-- The color of a tube's top. -/
def colT (vs : List Int) (i : Nat) : Nat := (vTop vs i).toNat
/-- How many candidates have a top of at least l layers in the tube i. -/
def longN (vs : List Int) (i l : Nat) : Nat := if (l : Int) ≤ vMany vs i then leftN (hid vs) (colT vs i) (l - 1) else 0
structure TopFacts (vs : List Int) (i : Nat) (m : Nat) (c : Nat) : Prop where
  many : vMany vs i = (m : Int)
  top : vTop vs i = (c : Int)
  m1 : 1 ≤ m
  m4 : m ≤ 4
  c1 : 1 ≤ c
  c6 : c < 6
  col : colT vs i = c
  room : m - 1 ≤ plUp (hid vs) 6
theorem bel_one {vs : List Int} (ht : topV vs = true) (i : Nat) (hi : i < 6) (m : Nat) (hm : vMany vs i = (m : Int)) (h1 : 1 ≤ m) : (m : Int) - 1 ≤ belUp vs 6 := by
  have key : ∀ j, i + 1 ≤ j → j ≤ 6 → (m : Int) - 1 ≤ belUp vs j := by
    intro j
    induction j with
    | zero => intro h _; omega
    | succ j ih =>
      intro h1 h2
      have hb := belUp_in ht j (by omega)
      rw [belUp]
      by_cases e : i = j
      · subst e; rw [hm]; split <;> omega
      · have := ih (by omega) (by omega)
        have := topV_at ht j (by omega)
        split <;> omega
  exact key 6 (by omega) (by omega)
theorem topFacts {vs : List Int} (h : vs.length = 18) (hv : vV vs = true) (i : Nat) (hi : i < 6) (hm : vMany vs i ≠ 0) : ∃ m c, TopFacts vs i m c := by
  have F := viewFacts h hv
  have T := topV_at F.tops i hi
  refine ⟨(vMany vs i).toNat, (vTop vs i).toNat, by omega, by omega, by omega, by omega, by omega, by omega, rfl, ?_⟩
  have hb := bel_one F.tops i hi (vMany vs i).toNat (by omega) (by omega)
  have := F.pl
  omega
theorem hid_stk {vs : List Int} (h : vs.length = 18) (hv : vV vs = true) : Stk (hid vs) (plUp (hid vs) 6) := by
  have F := viewFacts h hv
  exact ⟨hid_len h, F.nat, F.zero, rfl⟩
theorem long_one {vs : List Int} {i m c : Nat} (h : vs.length = 18) (T : TopFacts vs i m c) : longN vs i 1 = ordA (hid vs) := by
  unfold longN
  rw [if_pos (by rw [T.many]; have := T.m1; omega), T.col]
  exact left_zero (hid vs) c (hid_len h) T.c6
theorem long_yes {vs : List Int} {i m c l : Nat} (T : TopFacts vs i m c) (hl : l ≤ m) : longN vs i l = leftN (hid vs) c (l - 1) := by
  unfold longN
  rw [if_pos (by rw [T.many]; omega), T.col]
theorem long_no {vs : List Int} {i m c l : Nat} (T : TopFacts vs i m c) (hl : m < l) : longN vs i l = 0 := by
  unfold longN
  rw [if_neg (by rw [T.many]; omega)]
theorem long_mono {vs : List Int} {i m c : Nat} (h : vs.length = 18) (hv : vV vs = true) (T : TopFacts vs i m c) (l : Nat) (h1 : 1 ≤ l) : longN vs i (l + 1) ≤ longN vs i l := by
  by_cases hl : l + 1 ≤ m
  · rw [long_yes T hl, long_yes T (by omega)]
    have F := viewFacts h hv
    have := left_mono (hid vs) c (l - 1) (hid_len h) T.c6 F.nat (by have := T.room; omega)
    rw [show l + 1 - 1 = l - 1 + 1 by omega]; exact this
  · rw [long_no T (by omega)]; omega
theorem long_le {vs : List Int} {i m c : Nat} (h : vs.length = 18) (hv : vV vs = true) (T : TopFacts vs i m c) : ∀ l, 1 ≤ l → longN vs i l ≤ ordA (hid vs)
  | 0, h0 => by omega
  | l + 1, _ => by
    by_cases e : l = 0
    · subst e; rw [long_one h T]; omega
    · exact Nat.le_trans (long_mono h hv T l (by omega)) (long_le h hv T l (by omega))
end Go.Proofs.Ytemiljokdedidac.base
