/-
  Whether one can pour, on the program's side, walked.
-/
import Derived.Test.YtemiljokdedidabCan
namespace Go.Proofs.Ytemiljokdedidab.base
open Go.ChangeShapes Go.WideShapes Go.ChangeAt Go.RowKit
set_option linter.unusedVariables false
set_option linter.unusedSimpArgs false

def zer : Array Value := #[.int .i64 0, .int .i64 0, .int .i64 0, .int .i64 0]
/-- Two tubes are stored into two new blocks. -/
theorem twoNew (w0 w : World) (hk : Kept w0 w) (T : TypeId) (A B : List Int) (hA : A.length = 4) (hB : B.length = 4) :
    Has ((w.alloc (.cells #[.int .i64 0, .int .i64 0, .int .i64 0, .int .i64 0] T)).alloc (.cells #[.int .i64 0, .int .i64 0, .int .i64 0, .int .i64 0] T)) w.heap.size [0, 0, 0, 0] 4 ∧
    Has ((w.alloc (.cells #[.int .i64 0, .int .i64 0, .int .i64 0, .int .i64 0] T)).alloc (.cells #[.int .i64 0, .int .i64 0, .int .i64 0, .int .i64 0] T)) (w.heap.size + 1) [0, 0, 0, 0] 4 ∧
    Has ((((w.alloc (.cells #[.int .i64 0, .int .i64 0, .int .i64 0, .int .i64 0] T)).alloc (.cells #[.int .i64 0, .int .i64 0, .int .i64 0, .int .i64 0] T)).setCells w.heap.size 0 (ints A)).setCells (w.heap.size + 1) 0 (ints B)) w.heap.size A 4 ∧
    Has ((((w.alloc (.cells #[.int .i64 0, .int .i64 0, .int .i64 0, .int .i64 0] T)).alloc (.cells #[.int .i64 0, .int .i64 0, .int .i64 0, .int .i64 0] T)).setCells w.heap.size 0 (ints A)).setCells (w.heap.size + 1) 0 (ints B)) (w.heap.size + 1) B 4 ∧
    Kept w0 ((((w.alloc (.cells #[.int .i64 0, .int .i64 0, .int .i64 0, .int .i64 0] T)).alloc (.cells #[.int .i64 0, .int .i64 0, .int .i64 0, .int .i64 0] T)).setCells w.heap.size 0 (ints A)).setCells (w.heap.size + 1) 0 (ints B)) := by
  have z1 := (Has.zero w T).alloc (.cells #[.int .i64 0, .int .i64 0, .int .i64 0, .int .i64 0] T)
  have z2 := Has.zero2 w (.cells #[.int .i64 0, .int .i64 0, .int .i64 0, .int .i64 0] T) T
  have hs := hk.size
  exact ⟨z1, z2, (z1.putAll A hA).putOther _ _ (by omega), (z2.putOther (b' := w.heap.size) 0 (ints A) (by omega)).putAll B hB,
    (((hk.alloc _).alloc _).puts (b := w.heap.size) hs 0 (ints A)).puts (b := w.heap.size + 1) (by omega) 0 (ints B)⟩
theorem toA_len {ns : List Int} (h : ns.length = 24) (i j k : Int) (hk : k = i ∨ k = j) : (toA ns i j k).length = 4 := by
  unfold toA
  by_cases hb : twoOk ns i j = true
  · rw [if_pos hb]
    obtain ⟨_, p, q, rfl, rfl, hp, hq, _⟩ := twoOk_of hb
    rcases hk with rfl | rfl
    · exact tub_len ns _ h (by simpa using hp)
    · exact tub_len ns _ h (by simpa using hq)
  · rw [if_neg hb]; rfl
theorem toA_valid {ns : List Int} (h : ns.length = 24) (i j k : Int) (hk : k = i ∨ k = j) (hb : twoOk ns i j = true) : vT (toA ns i j k) = true := by
  unfold toA
  rw [if_pos hb]
  obtain ⟨hv, p, q, rfl, rfl, hp, hq, _⟩ := twoOk_of hb
  rcases hk with rfl | rfl
  · exact vR_tub hv _ (by simpa using hp)
  · exact vR_tub hv _ (by simpa using hq)

set_option maxHeartbeats 400000 in
theorem implCanPour (ns : List Int) (i j : Int) (w : World) (h24 : ns.length = 24) :
    Calls Try.prog 64 #[row ns, .int .i64 i, .int .i64 j] w fun e w' => e = .returned (.tuple #[.bool (canA ns i j), .bool (twoOk ns i j)]) ∧ Kept w w' := by
  have HB := Lib.hid ((kept_refl w).alloc (.cells (ints ns).toArray 28))
  rw [row_ints]
  go_enter Try.func64, Try.ntmps64
  go_wp2_with (refine load_has rfl 28 _ rfl _ rfl ?_ 24 ?_ _ Try.underlying28 rfl ?_ ?_; rotate_left; (· (repeat (first | (with_reducible assumption) | ((with_reducible refine Has.box _ _ ?_ ?_) <;> (first | assumption | decide)) | (with_reducible refine Has.alloc ?_ _) | ((with_reducible refine Has.putOther ?_ _ _ ?_); rotate_left; omega; skip) | ((with_reducible refine Has.below ?_ ?_); rotate_left; assumption)))); (· kernel_rfl))
  refine (twoTubes_any ns i j _ h24).mono ?_
  rintro e w1 ⟨rfl, b1⟩
  have sA := toA_len h24 i j i (.inl rfl)
  have sB := toA_len h24 i j j (.inr rfl)
  obtain ⟨z1, z2, F1, F2, K2⟩ := twoNew w w1 (HB.out.call b1) 94 (toA ns i j i) (toA ns i j j) sA sB
  have HB2 := Lib.hid K2
  have VA := Lib.hid (toA_valid h24 i j i (.inl rfl))
  have VB := Lib.hid (toA_valid h24 i j j (.inr rfl))
  have C := Lib.hid (show twoOk ns i j = true → canA ns i j = decide (0 < canN (toA ns i j i) (toA ns i j j)) from fun h => by
    unfold canA toA; rw [h, if_pos rfl, if_pos rfl, Bool.true_and])
  clear HB b1 K2
  generalize toA ns i j i = A at *
  generalize toA ns i j j = B at *
  by_cases hR : twoOk ns i j = true
  · rw [hR]
    have CC := Lib.hid (C.out hR)
    have va := VA.out hR
    have vb := VB.out hR
    have HR := Lib.hid hR
    clear hR
    go_wp2_with (first | (refine store_at rfl 94 _ _ rfl _ _ rfl rfl ?_ 4 ?_ ?_ ?_ ?_; rotate_left; (· (repeat (first | (with_reducible assumption) | ((with_reducible refine Has.box _ _ ?_ ?_) <;> (first | assumption | decide)) | (with_reducible refine Has.alloc ?_ _) | ((with_reducible refine Has.putOther ?_ _ _ ?_); rotate_left; omega; skip) | ((with_reducible refine Has.below ?_ ?_); rotate_left; assumption)))); (· (first | assumption | rfl)); (· kernel_rfl)) | (refine load_has rfl 94 _ rfl _ rfl ?_ 4 ?_ _ Try.underlying94 rfl ?_ ?_; rotate_left; (· (repeat (first | (with_reducible assumption) | ((with_reducible refine Has.box _ _ ?_ ?_) <;> (first | assumption | decide)) | (with_reducible refine Has.alloc ?_ _) | ((with_reducible refine Has.putOther ?_ _ _ ?_); rotate_left; omega; skip) | ((with_reducible refine Has.below ?_ ?_); rotate_left; assumption)))); (· kernel_rfl)))
    refine (pourable_any A B _ sA sB va vb).mono ?_
    rintro e w2 ⟨rfl, b2⟩
    have HB3 := Lib.hid (HB2.out.call b2)
    clear b2
    go_wp2_with fail
    go_ret2
    exact ⟨by rw [CC.out, HR.out]; simp, HB3.out⟩
  · have hf : twoOk ns i j = false := by simpa using hR
    rw [hf]
    have HR := Lib.hid hf
    clear hf hR
    go_wp2_with (first | (refine store_at rfl 94 _ _ rfl _ _ rfl rfl ?_ 4 ?_ ?_ ?_ ?_; rotate_left; (· (repeat (first | (with_reducible assumption) | ((with_reducible refine Has.box _ _ ?_ ?_) <;> (first | assumption | decide)) | (with_reducible refine Has.alloc ?_ _) | ((with_reducible refine Has.putOther ?_ _ _ ?_); rotate_left; omega; skip) | ((with_reducible refine Has.below ?_ ?_); rotate_left; assumption)))); (· (first | assumption | rfl)); (· kernel_rfl)) | (refine load_has rfl 94 _ rfl _ rfl ?_ 4 ?_ _ Try.underlying94 rfl ?_ ?_; rotate_left; (· (repeat (first | (with_reducible assumption) | ((with_reducible refine Has.box _ _ ?_ ?_) <;> (first | assumption | decide)) | (with_reducible refine Has.alloc ?_ _) | ((with_reducible refine Has.putOther ?_ _ _ ?_); rotate_left; omega; skip) | ((with_reducible refine Has.below ?_ ?_); rotate_left; assumption)))); (· kernel_rfl)))
    go_ret2
    exact ⟨by rw [canA_not HR.out, HR.out]; rfl, HB2.out⟩
end Go.Proofs.Ytemiljokdedidab.base
