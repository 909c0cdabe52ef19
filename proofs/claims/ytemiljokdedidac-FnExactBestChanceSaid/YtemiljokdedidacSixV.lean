/-
  Arrays of six numbers: turned and indexed in a law, walked.
-/
import Derived.Test.YtemiljokdedidacCount
namespace Go.Proofs.Ytemiljokdedidac.base
open Go.ChangeShapes Go.WideShapes Go.ChangeAt Go.RowKit
set_option linter.unusedVariables false
set_option linter.unusedSimpArgs false

/-- The first k of n numbers are f's, the others g's. -/
def mixV (n : Nat) (f g : Nat → Int) (k : Nat) : List Int := (List.range n).map (fun j => if j < k then f j else g j)
theorem mixV_len (n : Nat) (f g : Nat → Int) (k : Nat) : (mixV n f g k).length = n := by unfold mixV; simp
theorem mixV_getD (n : Nat) (f g : Nat → Int) (k j : Nat) (h : j < n) : (mixV n f g k).getD j 0 = if j < k then f j else g j := by
  unfold mixV
  rw [List.getD_eq_getElem?_getD, List.getElem?_map, List.getElem?_range h]; rfl
theorem mixV_set (n : Nat) (f g : Nat → Int) (k : Nat) : (mixV n f g k).set k (f k) = mixV n f g (k + 1) := by
  apply List.ext_getElem?
  intro j
  unfold mixV
  rw [List.getElem?_set]
  simp only [List.length_map, List.length_range]
  by_cases e : k = j
  · subst e
    rw [if_pos rfl]
    by_cases h : k < n
    · rw [if_pos h, List.getElem?_map, List.getElem?_range h]; simp
    · rw [if_neg h, List.getElem?_eq_none (by simp; omega)]
  · rw [if_neg e, List.getElem?_map, List.getElem?_map]
    by_cases h : j < n
    · rw [List.getElem?_range h]
      simp only [Option.map_some, Option.some.injEq]
      by_cases h2 : j < k
      · rw [if_pos h2, if_pos (by omega)]
      · rw [if_neg h2, if_neg (by omega)]
    · rw [List.getElem?_eq_none (by simp; omega)]; rfl
theorem list_rangeV {n : Nat} {ns : List Int} (h : ns.length = n) : (List.range n).map (fun j => ns.getD j 0) = ns := by
  apply List.ext_getElem?
  intro j
  rw [List.getElem?_map]
  by_cases hj : j < n
  · rw [List.getElem?_range hj, List.getElem?_eq_getElem (by omega)]
    show some (ns.getD j 0) = _
    rw [List.getD_eq_getElem?_getD, List.getElem?_eq_getElem (by omega)]; rfl
  · rw [List.getElem?_eq_none (by simp; omega), List.getElem?_eq_none (by omega)]; rfl
theorem mixV_0 (n : Nat) (f : Nat → Int) {ns : List Int} (h : ns.length = n) : mixV n f (fun j => ns.getD j 0) 0 = ns := by
  unfold mixV; simp only [Nat.not_lt_zero, if_false]; exact list_rangeV h
theorem mixV_all (n : Nat) (f g : Nat → Int) : mixV n f g n = (List.range n).map f := by
  unfold mixV
  apply List.map_congr_left
  intro j hj
  rw [if_pos (List.mem_range.1 hj)]
theorem mixV_copy {n : Nat} (g : Nat → Int) {ns : List Int} (h : ns.length = n) : mixV n (fun j => ns.getD j 0) g n = ns := by
  rw [mixV_all]; exact list_rangeV h

theorem index6v (T : TypeId) (hT : Try.prog.underlying T = some (.array 6 3)) (ns : List Int) (hn : ns.length = 6) (k : Nat) (hk : k < 6) (w : World) : (Instr.index T (.agg (ints ns).toArray) (.int .i64 (k : Nat))).run Try.prog w = .ok (.int .i64 (ns.getD k 0)) w :=
  run_index_int T 3 6 hT Try.underlying3 (fun w => by rw [Try.sizeOf3]) ns hn k hk w
theorem Has.asV {w : World} {b : Nat} {ns ms : List Int} {n : Nat} (h : Has w b ns n) (e : ns = ms) : Has w b ms n := e ▸ h

set_option maxHeartbeats 400000 in
theorem toIntA6v (ns : List Int) (w : World) (h6 : ns.length = 6) :
    Calls Try.prog 35 #[row ns] w fun e w' => e = .returned (row ns) ∧ Kept w w' := by
  have HB := Lib.hid ((((kept_refl w).alloc (.cells (ints ns).toArray 22)).alloc (.cells #[.int .i64 0, .int .i64 0, .int .i64 0, .int .i64 0, .int .i64 0, .int .i64 0] 22)).alloc (.cells #[.int .i64 0, .int .i64 0, .int .i64 0, .int .i64 0, .int .i64 0, .int .i64 0] 22))
  have H := ((Has.box w 22 h6 (by omega)).alloc (.cells #[.int .i64 0, .int .i64 0, .int .i64 0, .int .i64 0, .int .i64 0, .int .i64 0] 22)).alloc (.cells #[.int .i64 0, .int .i64 0, .int .i64 0, .int .i64 0, .int .i64 0, .int .i64 0] 22)
  have Z := ((Has.zero6 (w.alloc (.cells (ints ns).toArray 22)) 22).at (size1 _ _)).alloc (.cells #[.int .i64 0, .int .i64 0, .int .i64 0, .int .i64 0, .int .i64 0, .int .i64 0] 22)
  have Y := ((Has.zero6 ((w.alloc (.cells (ints ns).toArray 22)).alloc (.cells #[.int .i64 0, .int .i64 0, .int .i64 0, .int .i64 0, .int .i64 0, .int .i64 0] 22)) 22).at (c := w.heap.size + 1 + 1) (by simp)).asV (mixV_0 6 (fun j => ns.getD j 0) (ns := z6) rfl).symm
  rw [row_ints]
  go_enter Try.func35, Try.ntmps35
  go_wp2_with fail
  have HL := Lib.hid h6
  clear h6
  generalize (((w.alloc (.cells (ints ns).toArray 22)).alloc (.cells #[.int .i64 0, .int .i64 0, .int .i64 0, .int .i64 0, .int .i64 0, .int .i64 0] 22)).alloc (.cells #[.int .i64 0, .int .i64 0, .int .i64 0, .int .i64 0, .int .i64 0, .int .i64 0] 22)) = W at *
  go_loopw [4] (fun z wr => ∃ k : Nat, k ≤ 6 ∧ z = .int .i64 k ∧ Has wr w.heap.size ns 6 ∧ Has wr (w.heap.size + 1) z6 6 ∧ Has wr (w.heap.size + 1 + 1) (mixV 6 (fun j => ns.getD j 0) (fun j => z6.getD j 0) k) 6 ∧ Hid (Kept w wr)) (fun z _ => 6 - (intOf z).toNat)
  case atStart => exact ⟨0, by omega, rfl, H, Z, Y, HB⟩
  case round =>
    obtain ⟨k, hk, rfl, GH, GZ, GY, GB⟩ := hrel
    by_cases h : k < 6
    · have c1 := GH.cell k h
      have f1 := GY.free k h
      have c2 := GY.cell k h
      have hki : (k : Int) < 6 := by omega
      have S0 := GY.set k (ns.getD k 0) h
      have S1 := Lib.hid (S0.asV (mixV_set 6 (fun j => ns.getD j 0) (fun j => z6.getD j 0) k))
      have S2 := Lib.hid (GH.setOther (b' := w.heap.size + 1 + 1) k (.int .i64 (ns.getD k 0)) (by omega))
      have S3 := Lib.hid (GZ.setOther (b' := w.heap.size + 1 + 1) k (.int .i64 (ns.getD k 0)) (by omega))
      have S4 := Lib.hid (GB.out.set (b := w.heap.size + 1 + 1) (by omega) k (.int .i64 (ns.getD k 0)))
      clear S0 GY GH GZ GB
      generalize ns.getD k 0 = x at *
      go_wp2_with fail
      go_roundw
      case rel => exact ⟨k + 1, by omega, by go_num, S2.out, S3.out, S1.out, S4⟩
      case measure => simp [intOf]; omega
    · obtain rfl : k = 6 := by omega
      have GY2 := GY.asV (mixV_copy (fun j => z6.getD j 0) HL.out)
      have hl := HL.out
      have S1 := Lib.hid (GZ.putAll ns hl)
      have S2 := Lib.hid (GB.out.puts (b := w.heap.size + 1) (by omega) 0 (ints ns))
      clear GY
      go_wp2_with (first | (refine load_has rfl 22 _ rfl _ rfl ?_ 6 ?_ _ Try.underlying22 rfl ?_ ?_; rotate_left; (· (repeat (first | (with_reducible assumption) | ((with_reducible refine Has.box _ _ ?_ ?_) <;> (first | assumption | decide)) | (with_reducible refine Has.alloc ?_ _) | ((with_reducible refine Has.putOther ?_ _ _ ?_); rotate_left; omega; skip) | ((with_reducible refine Has.below ?_ ?_); rotate_left; assumption)))); (· kernel_rfl)) | (refine store_at rfl 22 _ _ rfl _ _ rfl rfl ?_ 6 ?_ ?_ ?_ ?_; rotate_left; (· (repeat (first | (with_reducible assumption) | ((with_reducible refine Has.box _ _ ?_ ?_) <;> (first | assumption | decide)) | (with_reducible refine Has.alloc ?_ _) | ((with_reducible refine Has.putOther ?_ _ _ ?_); rotate_left; omega; skip) | ((with_reducible refine Has.below ?_ ?_); rotate_left; assumption)))); (· (first | assumption | rfl)); (· kernel_rfl)))
      exact bodyPost_ret (res_has rfl _ _ (w.heap.size + 1) ns 6 _ rfl S1.out Try.underlying22 rfl (by kernel_rfl)) rfl ⟨rfl, S2.out⟩

end Go.Proofs.Ytemiljokdedidac.base
