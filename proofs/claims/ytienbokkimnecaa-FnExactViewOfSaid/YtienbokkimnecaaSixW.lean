/-
  Renamings and orders are told, on both sides, walked.
-/
import Derived.Test.YtienbokkimnecaaSix
namespace Go.Proofs.Ytienbokkimnecaa.base
open Go.ChangeShapes Go.WideShapes Go.ChangeAt Go.RowKit
set_option linter.unusedVariables false
set_option linter.unusedSimpArgs false

theorem Has.zero6x (w : World) (T : TypeId) : Has (w.alloc (.cells #[.int .i64 0, .int .i64 0, .int .i64 0, .int .i64 0, .int .i64 0, .int .i64 0] T)) w.heap.size z6x 6 := Has.box (ns := z6x) w T rfl (by decide)
theorem Has.asL {w : World} {b : Nat} {ns ms : List Int} {n : Nat} (h : Has w b ns n) (e : ns = ms) : Has w b ms n := e ▸ h

set_option maxHeartbeats 400000 in
theorem toIntA6_any (ns : List Int) (w : World) (h6 : ns.length = 6) :
    Calls Try.prog 36 #[row ns] w fun e w' => e = .returned (row ns) ∧ Kept w w' := by
  have HB := Lib.hid ((((kept_refl w).alloc (.cells (ints ns).toArray 26)).alloc (.cells #[.int .i64 0, .int .i64 0, .int .i64 0, .int .i64 0, .int .i64 0, .int .i64 0] 26)).alloc (.cells #[.int .i64 0, .int .i64 0, .int .i64 0, .int .i64 0, .int .i64 0, .int .i64 0] 26))
  have H := ((Has.box w 26 h6 (by omega)).alloc (.cells #[.int .i64 0, .int .i64 0, .int .i64 0, .int .i64 0, .int .i64 0, .int .i64 0] 26)).alloc (.cells #[.int .i64 0, .int .i64 0, .int .i64 0, .int .i64 0, .int .i64 0, .int .i64 0] 26)
  have Z := ((Has.zero6x (w.alloc (.cells (ints ns).toArray 26)) 26).at (size1 _ _)).alloc (.cells #[.int .i64 0, .int .i64 0, .int .i64 0, .int .i64 0, .int .i64 0, .int .i64 0] 26)
  have Y := ((Has.zero6x ((w.alloc (.cells (ints ns).toArray 26)).alloc (.cells #[.int .i64 0, .int .i64 0, .int .i64 0, .int .i64 0, .int .i64 0, .int .i64 0] 26)) 26).at (c := w.heap.size + 1 + 1) (by simp)).asL (mixUp_0 6 (fun j => ns.getD j 0) (ns := z6x) rfl).symm
  rw [row_ints]
  go_enter Try.func36, Try.ntmps36
  go_wp2_with fail
  have HL := Lib.hid h6
  clear h6
  generalize (((w.alloc (.cells (ints ns).toArray 26)).alloc (.cells #[.int .i64 0, .int .i64 0, .int .i64 0, .int .i64 0, .int .i64 0, .int .i64 0] 26)).alloc (.cells #[.int .i64 0, .int .i64 0, .int .i64 0, .int .i64 0, .int .i64 0, .int .i64 0] 26)) = W at *
  go_loopw [4] (fun z wr => ∃ k : Nat, k ≤ 6 ∧ z = .int .i64 k ∧ Has wr w.heap.size ns 6 ∧ Has wr (w.heap.size + 1) z6x 6 ∧ Has wr (w.heap.size + 1 + 1) (mixUp 6 (fun j => ns.getD j 0) (fun j => z6x.getD j 0) k) 6 ∧ Hid (Kept w wr)) (fun z _ => 6 - (intOf z).toNat)
  case atStart => exact ⟨0, by omega, rfl, H, Z, Y, HB⟩
  case round =>
    obtain ⟨k, hk, rfl, GH, GZ, GY, GB⟩ := hrel
    by_cases h : k < 6
    · have c1 := GH.cell k h
      have f1 := GY.free k h
      have c2 := GY.cell k h
      have hki : (k : Int) < 6 := by omega
      have S0 := GY.set k (ns.getD k 0) h
      have S1 := Lib.hid (S0.asL (mixUp_set 6 (fun j => ns.getD j 0) (fun j => z6x.getD j 0) k))
      have S2 := Lib.hid (GH.setOther (b' := w.heap.size + 1 + 1) k (.int .i64 (ns.getD k 0)) (by omega))
      have S3 := Lib.hid (GZ.setOther (b' := w.heap.size + 1 + 1) k (.int .i64 (ns.getD k 0)) (by omega))
      have S4 := Lib.hid (GB.out.set (b := w.heap.size + 1 + 1) (by omega) k (.int .i64 (ns.getD k 0)))
      clear S0 GY GH GZ GB
      generalize ns.getD k 0 = x at *
      go_wp2_with fail
      go_roundw
      case rel => exact ⟨k + 1, by omega, by go_num, S2.out, S3.out, S1.out, S4⟩
      case measure => simp [intOf]; omega
    · obtain rfl : k = 6 := by omega
      have GY2 := GY.asL (mixUp_copy (fun j => z6x.getD j 0) HL.out)
      have hl := HL.out
      have S1 := Lib.hid (GZ.putAll ns hl)
      have S2 := Lib.hid (GB.out.puts (b := w.heap.size + 1) (by omega) 0 (ints ns))
      clear GY
      go_wp2_with (first | (refine load_has rfl 26 _ rfl _ rfl ?_ 6 ?_ _ Try.underlying26 rfl ?_ ?_; rotate_left; (· (repeat (first | (with_reducible assumption) | ((with_reducible refine Has.box _ _ ?_ ?_) <;> (first | assumption | decide)) | (with_reducible refine Has.alloc ?_ _) | ((with_reducible refine Has.putOther ?_ _ _ ?_); rotate_left; omega; skip) | ((with_reducible refine Has.below ?_ ?_); rotate_left; assumption)))); (· kernel_rfl)) | (refine store_at rfl 26 _ _ rfl _ _ rfl rfl ?_ 6 ?_ ?_ ?_ ?_; rotate_left; (· (repeat (first | (with_reducible assumption) | ((with_reducible refine Has.box _ _ ?_ ?_) <;> (first | assumption | decide)) | (with_reducible refine Has.alloc ?_ _) | ((with_reducible refine Has.putOther ?_ _ _ ?_); rotate_left; omega; skip) | ((with_reducible refine Has.below ?_ ?_); rotate_left; assumption)))); (· (first | assumption | rfl)); (· kernel_rfl)))
      exact bodyPost_ret (res_has rfl _ _ (w.heap.size + 1) ns 6 _ rfl S1.out Try.underlying26 rfl (by kernel_rfl)) rfl ⟨rfl, S2.out⟩

def seenV (ns : List Int) (k : Nat) (j : Nat) : Value := .bool (decide ((j : Int) ∈ ns.take k))
theorem newAt_new {ns : List Int} {k c : Nat} (e : ns.getD k 0 = (c : Int)) (hc : c < 6) : newAt ns k = !decide ((c : Int) ∈ ns.take k) := by
  unfold newAt
  rw [e, decide_eq_true (by omega), Bool.true_and]
theorem newAt_out {ns : List Int} {k : Nat} (h : ¬ (0 ≤ ns.getD k 0 ∧ ns.getD k 0 < 6)) : newAt ns k = false := by
  unfold newAt
  rw [decide_eq_false (by omega)]; rfl
theorem seenV_step (ns : List Int) (k c : Nat) (e : ns.getD k 0 = (c : Int)) (h : k < ns.length) (j : Nat) : (if j = c then Value.bool true else seenV ns k j) = seenV ns (k + 1) j := by
  unfold seenV
  by_cases hj : j = c
  · subst hj
    rw [if_pos rfl, decide_eq_true ((mem_take_succ ns k _ h).2 (.inl e.symm))]
  · rw [if_neg hj]
    congr 1
    rw [decide_eq_decide, mem_take_succ ns k _ h, e]
    constructor
    · exact .inr
    · rintro (h1 | h1)
      · omega
      · exact h1

end Go.Proofs.Ytienbokkimnecaa.base
