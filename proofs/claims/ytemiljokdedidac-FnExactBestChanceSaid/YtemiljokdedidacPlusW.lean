/-
  The sum of two fractions on the model's side, walked.
-/
import Derived.Test.YtemiljokdedidacFracW
namespace Go.Proofs.Ytemiljokdedidac.base
open Go.ChangeShapes Go.WideShapes Go.ChangeAt Go.RowKit
set_option linter.unusedVariables false
set_option linter.unusedSimpArgs false
set_option maxHeartbeats 400000 in
set_option maxRecDepth 100000 in
theorem l7Sum_any (a b c d : Nat) (w : World) (x1 : a * d ≤ 2305843009213693952) (x2 : c * b ≤ 2305843009213693952) (x3 : b * d ≤ 2305843009213693952) (b0 : 0 < b) (d0 : 0 < d) :
    Calls Try.prog 88 #[row [(a : Int), (b : Int)], row [(c : Int), (d : Int)]] w fun e w' => e = .returned (.agg (ints (frac (a * d + c * b) (b * d))).toArray) ∧ Kept w w' := by
  have h1 : ([(a : Int), (b : Int)] : List Int).length = 2 := rfl
  have h2 : ([(c : Int), (d : Int)] : List Int).length = 2 := rfl
  have H := ((Has.box w 33 h1 (by omega)).alloc (.cells (ints [(c : Int), (d : Int)]).toArray 33)).alloc (.cells #[.int .i64 0, .int .i64 0] 33)
  have G := ((Has.box (w.alloc (.cells (ints [(a : Int), (b : Int)]).toArray 33)) 33 h2 (by omega)).at (c := w.heap.size + 1) (by simp)).alloc (.cells #[.int .i64 0, .int .i64 0] 33)
  have Z := (Has.zero2v ((w.alloc (.cells (ints [(a : Int), (b : Int)]).toArray 33)).alloc (.cells (ints [(c : Int), (d : Int)]).toArray 33)) 33).at (c := w.heap.size + 1 + 1) (by simp)
  have HB := Lib.hid ((((kept_refl w).alloc (.cells (ints [(a : Int), (b : Int)]).toArray 33)).alloc (.cells (ints [(c : Int), (d : Int)]).toArray 33)).alloc (.cells #[.int .i64 0, .int .i64 0] 33))
  have x4 : 0 < b * d := Nat.mul_pos b0 d0
  have a0 := H.cellX (k := 0) (x := (a : Int)) (by omega) rfl
  have a1 := H.cellX (k := 1) (x := (b : Int)) (by omega) rfl
  have a2 := G.cellX (k := 0) (x := (c : Int)) (by omega) rfl
  have a3 := G.cellX (k := 1) (x := (d : Int)) (by omega) rfl
  have KC := Lib.hid (fun W => l7Cut_any (a * d + c * b) (b * d) W x4 (by omega) (by omega))
  obtain ⟨u, hu⟩ : ∃ u, u = a * d := ⟨_, rfl⟩
  obtain ⟨v, hv⟩ : ∃ v, v = c * b := ⟨_, rfl⟩
  obtain ⟨t, ht⟩ : ∃ t, t = b * d := ⟨_, rfl⟩
  have w1 : IntKind.i64.wrap ((a : Int) * (d : Int)) = (u : Int) := by rw [IntWalk.i64_in _ (by rw [← Int.natCast_mul]; omega), hu, Int.natCast_mul]
  have w2 : IntKind.i64.wrap ((c : Int) * (b : Int)) = (v : Int) := by rw [IntWalk.i64_in _ (by rw [← Int.natCast_mul]; omega), hv, Int.natCast_mul]
  have w3 : IntKind.i64.wrap ((b : Int) * (d : Int)) = (t : Int) := by rw [IntWalk.i64_in _ (by rw [← Int.natCast_mul]; omega), ht, Int.natCast_mul]
  have w4 : IntKind.i64.wrap ((u : Int) + (v : Int)) = ((u + v : Nat) : Int) := by rw [IntWalk.i64_in _ (by omega)]; omega
  have w5 : (u : Int) + (v : Int) = ((u + v : Nat) : Int) := by omega
  obtain ⟨s, hs⟩ : ∃ s, s = u + v := ⟨_, rfl⟩
  rw [← hs] at w4 w5
  have w6 : IntKind.i64.wrap (s : Int) = (s : Int) := IntWalk.i64_in _ (by omega)
  rw [← hu, ← hv, ← ht] at KC
  rw [← hu, ← hv, ← ht]
  rw [← hs] at KC
  rw [← hs]
  have hS := Lib.hid hs
  clear x1 x2 x3 x4 hu hv ht hs b0 d0
  rw [row_ints, row_ints]
  go_enter Try.func88, Try.ntmps88
  go_wp2_with fail
  refine (KC.out _).mono ?_
  rintro e w6 ⟨rfl, b6⟩
  have Z6 := Z.below b6
  have HB6 := Lib.hid (HB.out.call b6)
  have hl := frac_len s t
  have S1 := Lib.hid (Z6.putAll (frac s t) hl)
  have S2 := Lib.hid (HB6.out.puts (b := w.heap.size + 1 + 1) (by omega) 0 (ints (frac s t)))
  clear H G Z HB b6 a0 a1 a2 a3
  go_wp2_with (refine store_at rfl 33 _ _ rfl _ _ rfl rfl ?_ 2 ?_ ?_ ?_ ?_; rotate_left; (· (repeat (first | (with_reducible assumption) | ((with_reducible refine Has.box _ _ ?_ ?_) <;> (first | assumption | decide)) | (with_reducible refine Has.alloc ?_ _) | ((with_reducible refine Has.putOther ?_ _ _ ?_); rotate_left; omega; skip) | ((with_reducible refine Has.below ?_ ?_); rotate_left; assumption)))); (· (first | assumption | rfl)); (· kernel_rfl))
  exact bodyPost_ret (res_has rfl _ _ (w.heap.size + 1 + 1) (frac s t) 2 _ rfl S1.out Try.underlying33 rfl (by kernel_rfl)) rfl ⟨rfl, S2.out⟩
end Go.Proofs.Ytemiljokdedidac.base
