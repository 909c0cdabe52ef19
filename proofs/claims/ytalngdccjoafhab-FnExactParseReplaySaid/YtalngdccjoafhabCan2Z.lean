/-
  Whether one can pour, on the program's side, walked.
-/
/-
  Which pours there are: plain mathematics, and both sides, walked.
-/
/-
  Which pours there are, on the program's side, walked.
-/
import Derived.Test.YtalngdccjoafhabCanZ
import Derived.Test.YtalngdccjoafhabMarkFZ
import Derived.Test.YtalngdccjoafhabTubeWZ

section
namespace Go.Proofs.Ytalngdccjoafhab.base
open Go.ChangeShapes Go.WideShapes Go.ChangeAt Go.RowKit
set_option linter.unusedVariables false
set_option linter.unusedSimpArgs false

def zer : Array Value := #[.int .i64 0, .int .i64 0, .int .i64 0, .int .i64 0]
/-- Two tubes are stored into two new blocks. -/
theorem twoNew (w0 w : World) (hk : Kept w0 w) (T : TypeId) (A B : List Int) (hA : A.length = 4) (hB : B.length = 4) :
    Has ((w.alloc (.cells #[.int .i64 0, .int .i64 0, .int .i64 0, .int .i64 0] T)).alloc (.cells #[.int .i64 0, .int .i64 0, .int .i64 0, .int .i64 0] T)) w.heap.size [0, 0, 0, 0] 4 ∧
    Has ((w.alloc (.cells #[.int .i64 0, .int .i64 0, .int .i64 0, .int .i64 0] T)).alloc (.cells #[.int .i64 0, .int .i64 0, .int .i64 0, .int .i64 0] T)) (w.heap.size + 1) [0, 0, 0, 0] 4 ∧
    Has ((((w.alloc (.cells #[.int .i64 0, .int .i64 0, .int .i64 0, .int .i64 0] T)).alloc (.cells #[.int .i64 0, .int .i64 0, .int .i64 0, .int .i64 0] T)).setCells w.heap.size 0 (ints A)).setCells (w.heap.size + 1) 0 (ints B)) w.heap.size A 4 ∧
    Has ((((w.alloc (.cells #[.int .i64 0, .int .i64 0, .int .i64 0, .int .i64 0] T)).alloc (.cells #[.int .i64 0, .int .i64 0, .int .i64 0, .int .i64 0] T)).setCells w.heap.size 0 (ints A)).setCells (w.heap.size + 1) 0 (ints B)) (w.heap.size + 1) B 4 ∧
    Kept w0 ((((w.alloc (.cells #[.int .i64 0, .int .i64 0, .int .i64 0, .int .i64 0] T)).alloc (.cells #[.int .i64 0, .int .i64 0, .int .i64 0, .int .i64 0] T)).setCells w.heap.size 0 (ints A)).setCells (w.heap.size + 1) 0 (ints B)) := by
  have z1 := (Has.zero w T).alloc (.cells #[.int .i64 0, .int .i64 0, .int .i64 0, .int .i64 0] T)
  have z2 := Has.zero2 w (.cells #[.int .i64 0, .int .i64 0, .int .i64 0, .int .i64 0] T) T
  have hs := hk.size
  exact ⟨z1, z2, (z1.putAll A hA).putOther _ _ (by omega), (z2.putOther (b' := w.heap.size) 0 (ints A) (by omega)).putAll B hB,
    (((hk.alloc _).alloc _).puts (b := w.heap.size) hs 0 (ints A)).puts (b := w.heap.size + 1) (by omega) 0 (ints B)⟩
theorem toA_len {ns : List Int} (h : ns.length = 24) (i j k : Int) (hk : k = i ∨ k = j) : (toA ns i j k).length = 4 := by
  unfold toA
  by_cases hb : twoOk ns i j = true
  · rw [if_pos hb]
    obtain ⟨_, p, q, rfl, rfl, hp, hq, _⟩ := twoOk_of hb
    rcases hk with rfl | rfl
    · exact tub_len ns _ h (by simpa using hp)
    · exact tub_len ns _ h (by simpa using hq)
  · rw [if_neg hb]; rfl
theorem toA_valid {ns : List Int} (h : ns.length = 24) (i j k : Int) (hk : k = i ∨ k = j) (hb : twoOk ns i j = true) : vT (toA ns i j k) = true := by
  unfold toA
  rw [if_pos hb]
  obtain ⟨hv, p, q, rfl, rfl, hp, hq, _⟩ := twoOk_of hb
  rcases hk with rfl | rfl
  · exact vR_tub hv _ (by simpa using hp)
  · exact vR_tub hv _ (by simpa using hq)

end Go.Proofs.Ytalngdccjoafhab.base
end

section
namespace Go.Proofs.Ytalngdccjoafhab.base
open Go.ChangeShapes Go.WideShapes Go.ChangeAt Go.RowKit
set_option linter.unusedVariables false
set_option linter.unusedSimpArgs false

/-- The pours among the first m pairs of places, flat. -/
def poursF (ns : List Int) : Nat → List Int
  | 0 => []
  | m + 1 => if m / 6 ≠ m % 6 ∧ 0 < canN (tub ns (m / 6)) (tub ns (m % 6)) then poursF ns m ++ [((m / 6 : Nat) : Int), ((m % 6 : Nat) : Int)] else poursF ns m
def poursN (ns : List Int) (m : Nat) : Nat := (poursF ns m).length / 2
theorem poursF_yes (ns : List Int) (p q : Nat) (hq : q < 6) (h : p ≠ q ∧ 0 < canN (tub ns p) (tub ns q)) : poursF ns (p * 6 + (q + 1)) = poursF ns (p * 6 + q) ++ [(p : Int), (q : Int)] := by
  have e1 : (p * 6 + q) / 6 = p := by omega
  have e2 : (p * 6 + q) % 6 = q := by omega
  rw [show p * 6 + (q + 1) = (p * 6 + q) + 1 by omega, poursF, e1, e2, if_pos h]
theorem poursF_no (ns : List Int) (p q : Nat) (hq : q < 6) (h : ¬ (p ≠ q ∧ 0 < canN (tub ns p) (tub ns q))) : poursF ns (p * 6 + (q + 1)) = poursF ns (p * 6 + q) := by
  have e1 : (p * 6 + q) / 6 = p := by omega
  have e2 : (p * 6 + q) % 6 = q := by omega
  rw [show p * 6 + (q + 1) = (p * 6 + q) + 1 by omega, poursF, e1, e2, if_neg h]
theorem poursN_yes (ns : List Int) (p q : Nat) (hq : q < 6) (h : p ≠ q ∧ 0 < canN (tub ns p) (tub ns q)) : poursN ns (p * 6 + (q + 1)) = poursN ns (p * 6 + q) + 1 := by
  unfold poursN; rw [poursF_yes ns p q hq h, List.length_append]; simp
theorem poursN_no (ns : List Int) (p q : Nat) (hq : q < 6) (h : ¬ (p ≠ q ∧ 0 < canN (tub ns p) (tub ns q))) : poursN ns (p * 6 + (q + 1)) = poursN ns (p * 6 + q) := by
  unfold poursN; rw [poursF_no ns p q hq h]
theorem poursN_le (ns : List Int) : ∀ m, poursN ns m ≤ m
  | 0 => by unfold poursN; rw [poursF]; simp
  | m + 1 => by
    have := poursN_le ns m
    unfold poursN at this ⊢
    rw [poursF]
    split
    · rw [List.length_append]; simp; omega
    · omega
theorem pours0 (ns : List Int) : poursN ns 0 = 0 ∧ poursF ns 0 = [] := ⟨by unfold poursN; rw [poursF]; rfl, rfl⟩
def poursFA (ns : List Int) : List Int := if vR ns = true then poursF ns 36 else []
def poursNA (ns : List Int) : Nat := if vR ns = true then poursN ns 36 else 0
theorem poursNA_le (ns : List Int) : poursNA ns ≤ 36 := by
  unfold poursNA
  split
  · exact poursN_le ns 36
  · omega
def PoursPost (ns : List Int) (w : World) (e : Ending) (w' : World) : Prop := ∃ v : Value, e = .returned (.tuple #[v, .bool (vR ns)]) ∧ Prs w' w.heap.size v (poursNA ns) (poursFA ns) ∧ Kept w w'
/-- One pair more. -/
theorem prs_app {w0 w1 w3 : World} {c N : Nat} {fs : List Int} {x y : Int} {v v' : Value} {o : Obj} (GP : Prs w1 (c + 1) v N fs) (GB : Kept w0 w1) (hc : w0.heap.size ≤ c)
    (hown : w3.ownsRow (c + 1) 51 2 v' (N + 1) (ints fs ++ [.int .i64 x, .int .i64 y])) (hg : (w1.alloc o).grownBy w3 v.ownBlock) :
    Prs w3 (c + 1) v' (N + 1) (fs ++ [x, y]) ∧ Kept w0 w3 := by
  refine ⟨?_, (GB.alloc o).grown hg (GB.alloc o).size (fun j hj => by have := GP.own j hj; omega)⟩
  unfold Prs
  rw [ints_app]; exact hown

end Go.Proofs.Ytalngdccjoafhab.base
end

section
namespace Go.Proofs.Ytalngdccjoafhab.base
open Go.ChangeShapes Go.WideShapes Go.ChangeAt Go.RowKit
set_option linter.unusedVariables false
set_option linter.unusedSimpArgs false

theorem Has.grownNe {w w' : World} {c : Nat} {ns : List Int} {m : Nat} (H : Has w c ns m) {r : Option Nat} (hg : w.grownBy w' r) (hr : some c ≠ r) : Has w' c ns m := by
  have hb := hg.block c H.lt hr
  refine ⟨⟨fun j v hv => (World.cell?_of_block (a := ⟨c, 0 + j, Option.none⟩) hb).trans (H.holds.range j v hv), fun j hj => ?_⟩, H.len, H.pos⟩
  have := H.holds.there j hj
  rw [World.cell?_of_block (w' := w') (w := w) (a := ⟨c, 0 + j, Option.none⟩) hb, World.frozen?_of_block (w' := w') (w := w) (a := ⟨c, 0 + j, Option.none⟩) hb]
  exact this

end Go.Proofs.Ytalngdccjoafhab.base
end
