/-
  Which pours are possible, on both sides, walked.
-/
/-
  Whether one can pour, on the program's side, walked.
-/
import Derived.Test.YtcedpjjfcfeokabDoors
import Derived.Deep.RegionHeld3

section
namespace Go.Proofs.Ytcedpjjfcfeokab.base
open Go.ChangeShapes Go.WideShapes Go.ChangeAt Go.RowKit
set_option linter.unusedVariables false
set_option linter.unusedSimpArgs false

theorem canN_pos {s t : List Int} (hs : s.length = 4) (ht : t.length = 4) (vs : vT s = true) (vt : vT t = true) :
    0 < canN s t ↔ 0 < topN s ∧ lay t < 4 ∧ (topC t = 0 ∨ topC t = topC s) := by
  have FT := tubeFacts ht vt
  have h1 := FT.none
  have h2 := FT.noneC
  have h4 := FT.lay4
  unfold canN
  by_cases h0 : lay t = 0
  · rw [if_neg (by omega)]
    have : topC t = 0 := h2.2 (h1.1 h0)
    simp only [this, true_or, and_true]; omega
  · by_cases hc : topC t = topC s
    · rw [if_neg (by omega)]
      simp only [hc, or_true, and_true]; omega
    · rw [if_pos ⟨h0, hc⟩]
      have : topC t ≠ 0 := fun h => h0 (h1.2 (h2.1 h))
      simp [hc, this]

theorem twoOk_yes {ns : List Int} {p q : Nat} (hv : vR ns = true) (hp : p < 6) (hq : q < 6) (hne : p ≠ q) : twoOk ns (p : Int) (q : Int) = true := by
  unfold twoOk; rw [hv]; simp; omega
theorem twoOk_not {ns : List Int} {i j : Int} (h : ¬ (vR ns = true ∧ (0 ≤ i ∧ i < 6) ∧ (0 ≤ j ∧ j < 6) ∧ i ≠ j)) : twoOk ns i j = false := by
  cases hb : twoOk ns i j with
  | false => rfl
  | true => unfold twoOk at hb; simp at hb; exact absurd ⟨hb.1.1.1, hb.1.1.2, hb.1.2, hb.2⟩ h
theorem twoOk_of {ns : List Int} {i j : Int} (h : twoOk ns i j = true) : vR ns = true ∧ ∃ p q : Nat, i = (p : Int) ∧ j = (q : Int) ∧ p < 6 ∧ q < 6 ∧ p ≠ q := by
  unfold twoOk at h
  simp at h
  exact ⟨h.1.1.1, i.toNat, j.toNat, by omega, by omega, by omega, by omega, by omega⟩
theorem canA_not {ns : List Int} {i j : Int} (h : twoOk ns i j = false) : canA ns i j = false := by unfold canA; rw [h]; rfl

theorem Has.zero2 (w : World) (o : Obj) (T : TypeId) : Has ((w.alloc o).alloc (.cells #[.int .i64 0, .int .i64 0, .int .i64 0, .int .i64 0] T)) (w.heap.size + 1) [0, 0, 0, 0] 4 := (Has.zero (w.alloc o) T).at (size1 _ _)
theorem Has.zero3 (w : World) (o o' : Obj) (T : TypeId) : Has (((w.alloc o).alloc o').alloc (.cells #[.int .i64 0, .int .i64 0, .int .i64 0, .int .i64 0] T)) (w.heap.size + 1 + 1) [0, 0, 0, 0] 4 := (Has.zero ((w.alloc o).alloc o') T).at (by simp)

def toA (ns : List Int) (i j k : Int) : List Int := if twoOk ns i j = true then tub ns k.toNat else [0, 0, 0, 0]

end Go.Proofs.Ytcedpjjfcfeokab.base
end

section
namespace Go.Proofs.Ytcedpjjfcfeokab.base
open Go.ChangeShapes Go.WideShapes Go.ChangeAt Go.RowKit
set_option linter.unusedVariables false
set_option linter.unusedSimpArgs false

def zer : Array Value := #[.int .i64 0, .int .i64 0, .int .i64 0, .int .i64 0]
/-- Two tubes are stored into two new blocks. -/
theorem twoNew (w0 w : World) (hk : Kept w0 w) (T : TypeId) (A B : List Int) (hA : A.length = 4) (hB : B.length = 4) :
    Has ((w.alloc (.cells #[.int .i64 0, .int .i64 0, .int .i64 0, .int .i64 0] T)).alloc (.cells #[.int .i64 0, .int .i64 0, .int .i64 0, .int .i64 0] T)) w.heap.size [0, 0, 0, 0] 4 ∧
    Has ((w.alloc (.cells #[.int .i64 0, .int .i64 0, .int .i64 0, .int .i64 0] T)).alloc (.cells #[.int .i64 0, .int .i64 0, .int .i64 0, .int .i64 0] T)) (w.heap.size + 1) [0, 0, 0, 0] 4 ∧
    Has ((((w.alloc (.cells #[.int .i64 0, .int .i64 0, .int .i64 0, .int .i64 0] T)).alloc (.cells #[.int .i64 0, .int .i64 0, .int .i64 0, .int .i64 0] T)).setCells w.heap.size 0 (ints A)).setCells (w.heap.size + 1) 0 (ints B)) w.heap.size A 4 ∧
    Has ((((w.alloc (.cells #[.int .i64 0, .int .i64 0, .int .i64 0, .int .i64 0] T)).alloc (.cells #[.int .i64 0, .int .i64 0, .int .i64 0, .int .i64 0] T)).setCells w.heap.size 0 (ints A)).setCells (w.heap.size + 1) 0 (ints B)) (w.heap.size + 1) B 4 ∧
    Kept w0 ((((w.alloc (.cells #[.int .i64 0, .int .i64 0, .int .i64 0, .int .i64 0] T)).alloc (.cells #[.int .i64 0, .int .i64 0, .int .i64 0, .int .i64 0] T)).setCells w.heap.size 0 (ints A)).setCells (w.heap.size + 1) 0 (ints B)) := by
  have z1 := (Has.zero w T).alloc (.cells #[.int .i64 0, .int .i64 0, .int .i64 0, .int .i64 0] T)
  have z2 := Has.zero2 w (.cells #[.int .i64 0, .int .i64 0, .int .i64 0, .int .i64 0] T) T
  have hs := hk.size
  exact ⟨z1, z2, (z1.putAll A hA).putOther _ _ (by omega), (z2.putOther (b' := w.heap.size) 0 (ints A) (by omega)).putAll B hB,
    (((hk.alloc _).alloc _).puts (b := w.heap.size) hs 0 (ints A)).puts (b := w.heap.size + 1) (by omega) 0 (ints B)⟩
theorem toA_len {ns : List Int} (h : ns.length = 24) (i j k : Int) (hk : k = i ∨ k = j) : (toA ns i j k).length = 4 := by
  unfold toA
  by_cases hb : twoOk ns i j = true
  · rw [if_pos hb]
    obtain ⟨_, p, q, rfl, rfl, hp, hq, _⟩ := twoOk_of hb
    rcases hk with rfl | rfl
    · exact tub_len ns _ h (by simpa using hp)
    · exact tub_len ns _ h (by simpa using hq)
  · rw [if_neg hb]; rfl
theorem toA_valid {ns : List Int} (h : ns.length = 24) (i j k : Int) (hk : k = i ∨ k = j) (hb : twoOk ns i j = true) : vT (toA ns i j k) = true := by
  unfold toA
  rw [if_pos hb]
  obtain ⟨hv, p, q, rfl, rfl, hp, hq, _⟩ := twoOk_of hb
  rcases hk with rfl | rfl
  · exact vR_tub hv _ (by simpa using hp)
  · exact vR_tub hv _ (by simpa using hq)

end Go.Proofs.Ytcedpjjfcfeokab.base
end
