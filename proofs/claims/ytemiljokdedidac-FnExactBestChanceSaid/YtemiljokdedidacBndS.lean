/-
  Runs, bottoms, boundaries, bounds and spare runs, on the model's side, walked.
-/
import Derived.Test.YtemiljokdedidacBndM
import Derived.Test.YtemiljokdedidacRunsIZ
namespace Go.Proofs.Ytemiljokdedidac.base
open Go.ChangeShapes Go.WideShapes Go.ChangeAt Go.RowKit
set_option linter.unusedVariables false
set_option linter.unusedSimpArgs false

theorem prs_shape {w : World} {b : Nat} {v : Value} {n : Nat} {fs : List Int} (h : Prs w b v n fs) : ∃ a cap, v = .slice a n cap := by
  rcases h.2 with ⟨h0, h1⟩ | ⟨g, cap, cur, h0, _⟩
  · exact ⟨_, _, by rw [h1]; exact h0⟩
  · exact ⟨_, _, h0⟩
theorem idx6 (T : TypeId) (hT : Try.prog.underlying T = some (.array 6 3)) (ns : List Int) (hn : ns.length = 6) (k : Nat) (hk : k < 6) (w : World) : (Instr.index T (.agg (ints ns).toArray) (.int .i64 (k : Nat))).run Try.prog w = .ok (.int .i64 (ns.getD k 0)) w :=
  run_index_int T 3 6 hT Try.underlying3 (fun w => by rw [Try.sizeOf3]) ns hn k hk w
theorem build6 (w : World) : (Instr.build 22 #[]).run Try.prog w = .ok (.agg (ints z6).toArray) w := by kernel_rfl

theorem l1Most_any (a b : Int) (w : World) :
    Calls Try.prog 34 #[.int .i64 a, .int .i64 b] w fun e w' => e = .returned (.int .i64 (max a b)) ∧ w = w' := by
  by_cases h : b < a
  · have e : max a b = a := by omega
    rw [e]
    clear e
    go_enter Try.func34, Try.ntmps34
    go_wp2_with fail
    go_ret
    exact ⟨rfl, rfl⟩
  · have e : max a b = b := by omega
    have q : decide (b < a) = false := by simpa using h
    rw [e]
    clear e h
    go_enter Try.func34, Try.ntmps34
    go_wp2_with fail
    go_ret
    exact ⟨rfl, rfl⟩

set_option maxHeartbeats 400000 in
theorem l6Runs_any (ns : List Int) (w : World) (h24 : ns.length = 24) (hv : vR ns = true) :
    Calls Try.prog 112 #[row ns] w fun e w' => e = .returned (.int .i64 (runUp ns 6 : Nat)) ∧ Kept w w' := by
  have HB := Lib.hid ((kept_refl w).alloc (.cells (ints ns).toArray 42))
  have H := Has.box w 42 h24 (by omega)
  have HU := Lib.hid (runUp_le h24 hv)
  have HN := Lib.hid (fun p hp => nR_le h24 hv p hp)
  rw [row_ints]
  go_enter Try.func112, Try.ntmps112
  go_wp2_with fail
  have H24 := Lib.hid h24
  have HV := Lib.hid hv
  clear h24 hv
  generalize w.alloc (.cells (ints ns).toArray 42) = W at *
  go_loopw [3, 4] (fun m i wr => ∃ p : Nat, p ≤ 6 ∧ i = .int .i64 p ∧ m = .int .i64 (runUp ns p : Nat) ∧ Has wr w.heap.size ns 24 ∧ Hid (Kept w wr)) (fun _ z _ => 6 - (intOf z).toNat)
  case atStart => exact ⟨0, by omega, rfl, rfl, H, HB⟩
  case round =>
    obtain ⟨p, hp, rfl, rfl, G1, GB⟩ := hrel
    by_cases hp6 : p < 6
    · have hpi : (p : Int) < 6 := by omega
      have h4 := tub_len ns p H24.out hp6
      have hvt := vR_tub HV.out p hp6
      have hu := HU.out p (by omega)
      have hn := HN.out p hp6
      have E : Hid (runUp ns (p + 1) = runUp ns p + nR ns p) := Lib.hid rfl
      have EN : Hid (nR ns p = runsN (tub ns p) (lay (tub ns p))) := Lib.hid rfl
      go_wp2_with (refine load_tub rfl 37 _ rfl _ (p) _ rfl ?_ ?_ ?_ ?_ _ Try.underlying37 rfl ?_ ?_; (· (first | rfl | omega)); rotate_left; (· (repeat (first | (with_reducible assumption) | ((with_reducible refine Has.box _ _ ?_ ?_) <;> (first | assumption | decide)) | (with_reducible refine Has.alloc ?_ _) | ((with_reducible refine Has.putOther ?_ _ _ ?_); rotate_left; omega; skip) | ((with_reducible refine Has.below ?_ ?_); rotate_left; assumption)))); (· omega); (· kernel_rfl))
      refine (l2Runs_any (tub ns p) _ h4 hvt).mono ?_
      rintro e w1 ⟨vr, rfl, q1, b1⟩
      rw [← EN.out] at q1
      obtain ⟨a, cap, rfl⟩ := prs_shape q1
      have G2 := G1.below b1
      have GB2 := Lib.hid (GB.out.call b1)
      clear G1 GB b1 q1
      generalize nR ns p = x at *
      generalize runUp ns p = y at *
      go_wp2_with fail
      go_roundw
      case rel => exact ⟨p + 1, by omega, by go_num, by rw [E.out]; go_num, G2, GB2⟩
      case measure => simp [intOf]; omega
    · obtain rfl : p = 6 := by omega
      go_wp2_with fail
      go_ret
      exact ⟨rfl, GB.out⟩

end Go.Proofs.Ytemiljokdedidac.base
