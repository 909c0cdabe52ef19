/-
  Whether one can pour, on the program's side, walked.
-/
import Derived.Test.YtpbfdjiglacbbabCan
namespace Go.Proofs.Ytpbfdjiglacbbab.base
open Go.ChangeShapes Go.WideShapes Go.ChangeAt Go.RowKit
set_option linter.unusedVariables false
set_option linter.unusedSimpArgs false

def zer : Array Value := #[.int .i64 0, .int .i64 0, .int .i64 0, .int .i64 0]
/-- Two tubes are stored into two new blocks. -/
theorem twoNew (w0 w : World) (hk : Kept w0 w) (T : TypeId) (A B : List Int) (hA : A.length = 4) (hB : B.length = 4) :
    Has ((w.alloc (.cells #[.int .i64 0, .int .i64 0, .int .i64 0, .int .i64 0] T)).alloc (.cells #[.int .i64 0, .int .i64 0, .int .i64 0, .int .i64 0] T)) w.heap.size [0, 0, 0, 0] 4 ∧
    Has ((w.alloc (.cells #[.int .i64 0, .int .i64 0, .int .i64 0, .int .i64 0] T)).alloc (.cells #[.int .i64 0, .int .i64 0, .int .i64 0, .int .i64 0] T)) (w.heap.size + 1) [0, 0, 0, 0] 4 ∧
    Has ((((w.alloc (.cells #[.int .i64 0, .int .i64 0, .int .i64 0, .int .i64 0] T)).alloc (.cells #[.int .i64 0, .int .i64 0, .int .i64 0, .int .i64 0] T)).setCells w.heap.size 0 (ints A)).setCells (w.heap.size + 1) 0 (ints B)) w.heap.size A 4 ∧
    Has ((((w.alloc (.cells #[.int .i64 0, .int .i64 0, .int .i64 0, .int .i64 0] T)).alloc (.cells #[.int .i64 0, .int .i64 0, .int .i64 0, .int .i64 0] T)).setCells w.heap.size 0 (ints A)).setCells (w.heap.size + 1) 0 (ints B)) (w.heap.size + 1) B 4 ∧
    Kept w0 ((((w.alloc (.cells #[.int .i64 0, .int .i64 0, .int .i64 0, .int .i64 0] T)).alloc (.cells #[.int .i64 0, .int .i64 0, .int .i64 0, .int .i64 0] T)).setCells w.heap.size 0 (ints A)).setCells (w.heap.size + 1) 0 (ints B)) := by
  have z1 := (Has.zero w T).alloc (.cells #[.int .i64 0, .int .i64 0, .int .i64 0, .int .i64 0] T)
  have z2 := Has.zero2 w (.cells #[.int .i64 0, .int .i64 0, .int .i64 0, .int .i64 0] T) T
  have hs := hk.size
  exact ⟨z1, z2, (z1.putAll A hA).putOther _ _ (by omega), (z2.putOther (b' := w.heap.size) 0 (ints A) (by omega)).putAll B hB,
    (((hk.alloc _).alloc _).puts (b := w.heap.size) hs 0 (ints A)).puts (b := w.heap.size + 1) (by omega) 0 (ints B)⟩
theorem toA_len {ns : List Int} (h : ns.length = 24) (i j k : Int) (hk : k = i ∨ k = j) : (toA ns i j k).length = 4 := by
  unfold toA
  by_cases hb : twoOk ns i j = true
  · rw [if_pos hb]
    obtain ⟨_, p, q, rfl, rfl, hp, hq, _⟩ := twoOk_of hb
    rcases hk with rfl | rfl
    · exact tub_len ns _ h (by simpa using hp)
    · exact tub_len ns _ h (by simpa using hq)
  · rw [if_neg hb]; rfl
theorem toA_valid {ns : List Int} (h : ns.length = 24) (i j k : Int) (hk : k = i ∨ k = j) (hb : twoOk ns i j = true) : vT (toA ns i j k) = true := by
  unfold toA
  rw [if_pos hb]
  obtain ⟨hv, p, q, rfl, rfl, hp, hq, _⟩ := twoOk_of hb
  rcases hk with rfl | rfl
  · exact vR_tub hv _ (by simpa using hp)
  · exact vR_tub hv _ (by simpa using hq)

end Go.Proofs.Ytpbfdjiglacbbab.base
