/-
  Whether a rack is sorted, on the model's side, walked.
-/
import Derived.Test.YtemiljokdedidacSort
namespace Go.Proofs.Ytemiljokdedidac.base
open Go.ChangeShapes Go.WideShapes Go.ChangeAt Go.RowKit
set_option linter.unusedVariables false
set_option linter.unusedSimpArgs false

/-- One number more. -/
theorem ow_new {w0 w1 w3 : World} {c n x : _} {cs : List Int} {v v' : Value} {ns : List Int} {o : Obj} (GP : Ow w1 (c + 1) v n cs) (G : Has w1 c ns 24) (GB : Kept w0 w1) (hc : w0.heap.size ≤ c)
    (hown : w3.ownsRow (c + 1) 3 1 v' (n + 1) (ints cs ++ [.int .i64 x])) (hg : (w1.alloc o).grownBy w3 v.ownBlock) :
    Has w3 c ns 24 ∧ Ow w3 (c + 1) v' (n + 1) (cs ++ [x]) ∧ Kept w0 w3 := by
  have hown0 : ∀ k, v.ownBlock = some k → c + 1 ≤ k := fun k hk => (World.ownsRow.lt GP k hk).1
  refine ⟨(G.alloc o).grown hg hown0, ?_, (GB.alloc o).grown hg (GB.alloc o).size (fun j hj => by have := hown0 j hj; omega)⟩
  unfold Ow
  rw [ints_app]; exact hown

set_option maxHeartbeats 1600000 in
set_option maxRecDepth 100000 in
theorem l2Sorted_any (ns : List Int) (w : World) (h24 : ns.length = 24) (hv : vR ns = true) :
    Calls Try.prog 40 #[row ns] w fun e w' => e = .returned (.bool (sortedA ns)) ∧ Kept w w' := by
  obtain ⟨i0, hi, hz0, hz1, hz2⟩ := info_parts infoInt
  have HB := Lib.hid (((kept_refl w).alloc (.cells (ints ns).toArray 42)).alloc (.cells #[] 3))
  have H := (Has.box w 42 h24 (by omega)).alloc (.cells #[] 3)
  have P0 := Ow.none (w.alloc (.cells (ints ns).toArray 42)) (w.heap.size + 1) (by simp)
  rw [size1] at P0
  have P1 := Lib.hid P0
  rw [row_ints]
  clear P0
  go_enter Try.func40, Try.ntmps40
  go_wp2_with fail
  have H24 := Lib.hid h24
  have HV := Lib.hid hv
  clear h24 hv
  generalize ((w.alloc (.cells (ints ns).toArray 42)).alloc (.cells #[] 3)) = W at *
  go_loopw [3, 4, 5] (fun v i r wr => ∃ p : Nat, p ≤ 6 ∧ i = .int .i64 p ∧ Has wr w.heap.size ns 24 ∧ Hid (Ow wr (w.heap.size + 1) v (cols ns p).length (cols ns p)) ∧ Hid (∀ q, q < p → badT (cols ns q) (tub ns q) = false) ∧ Hid (Kept w wr)) (fun _ z _ _ => 6 - (intOf z).toNat)
  case atStart => exact ⟨0, by omega, rfl, H, P1, Lib.hid (fun q hq => by omega), HB⟩
  case round =>
    obtain ⟨p, hp, rfl, G1, GP, GN, GB⟩ := hrel
    by_cases hp6 : p < 6
    · have hpi : (p : Int) < 6 := by omega
      have h4 := tub_len ns p H24.out hp6
      have hvt := vR_tub HV.out p hp6
      have F := Lib.hid (sortFacts h4 hvt)
      have L4 := (tubeFacts h4 hvt).lay4
      have RF := Lib.hid (runFacts h4 hvt (lay (tub ns p)) L4)
      go_wp2_with (refine load_tub rfl 37 _ rfl _ (p) _ rfl ?_ ?_ ?_ ?_ _ Try.underlying37 rfl ?_ ?_; (· (first | rfl | omega)); rotate_left; (· (repeat (first | (with_reducible assumption) | ((with_reducible refine Has.box _ _ ?_ ?_) <;> (first | assumption | decide)) | (with_reducible refine Has.alloc ?_ _) | ((with_reducible refine Has.putOther ?_ _ _ ?_); rotate_left; omega; skip) | ((with_reducible refine Has.below ?_ ?_); rotate_left; assumption)))); (· omega); (· kernel_rfl))
      refine (l2Runs_any (tub ns p) _ h4 hvt).mono ?_
      rintro e w1 ⟨vr, rfl, q1, b1⟩
      have G2 := G1.below b1
      have GP2 := Lib.hid (GP.out.below b1)
      have GB2 := Lib.hid (GB.out.call b1)
      clear G1 GP GB b1
      have hcl := cols_len ns p
      obtain ⟨n, hn⟩ : ∃ n, n = runsN (tub ns p) (lay (tub ns p)) := ⟨_, rfl⟩
      rw [← hn] at q1
      have n4 : n ≤ 4 := by have := RF.out.small; omega
      have HN := Lib.hid hn
      clear hn
      rcases n with _ | _ | n
      · obtain ⟨a, cap, rfl⟩ := own_zero q1
        have z := F.out.zero.1 HN.out.symm
        have GP3 : Hid (Ow w1 (w.heap.size + 1) u3 (cols ns (p + 1)).length (cols ns (p + 1))) := Lib.hid (by rw [cols_zero z]; exact GP2.out)
        have GN2 := Lib.hid (show ∀ q, q < p + 1 → badT (cols ns q) (tub ns q) = false from fun q hq => by
          by_cases hqp : q = p
          · subst hqp; exact bad_zero F.out z
          · exact GN.out q (by omega))
        clear q1 z
        go_wp2_with fail
        go_roundw
        case rel => exact ⟨p + 1, by omega, by go_num, G2, GP3, GN2, GB2⟩
        case measure => simp [intOf]; omega
      · obtain ⟨g, cap, rfl, _, _⟩ := q1.form (by omega)
        have c0 : w1.cell? ⟨g, 0, none⟩ = some (.int .i64 (topC (tub ns p))) := by
          rw [World.ownsRow.cellAt q1 0 (by omega), ← F.out.col HN.out.symm]
          exact ints_get _ _ (by have := RF.out.len; rw [← HN.out] at this; omega)
        have z := (F.out.one.1 HN.out.symm).1
        have B := Lib.hid (bad_one (cs := cols ns p) HN.out.symm)
        clear q1
        go_wp2_with fail
        refine (l1Has_any u3 _ (cols ns p) (topC (tub ns p)) _ _ GP2.out (by omega)).mono ?_
        rintro e w' ⟨rfl, rfl⟩
        by_cases hm : topC (tub ns p) ∈ cols ns p
        · have R := Lib.hid (sorted_no p hp6 (by rw [B.out, decide_eq_true hm]))
          rw [decide_eq_true hm]
          clear hm
          go_wp2_with fail
          go_ret
          exact ⟨ret_bool R.out.symm, GB2.out⟩
        · have GN2 := Lib.hid (show ∀ q, q < p + 1 → badT (cols ns q) (tub ns q) = false from fun q hq => by
            by_cases hqp : q = p
            · subst hqp; rw [B.out, decide_eq_false hm]
            · exact GN.out q (by omega))
          rw [decide_eq_false hm]
          have CN := Lib.hid (cols_new z)
          clear hm z
          have hbs := GB2.out.size
          generalize topC (tub ns p) = x at *
          go_wp2_with (first | (at_builtin; refine wpList_append_own _ rfl _ _ 98 rfl (w.heap.size + 1) 3 i0 (.int .i64 0) 1 8 Try.underlying98 hi hz0 hz1 hz2 rfl (by decide) _ (cols ns p).length (ints (cols ns p)) rfl (World.ownsRow.alloc GP2.out _) ⟨w'.heap.size, 0, none⟩ 1 1 [.int .i64 x] rfl rfl (cell_one_new _ _ _) (fun x hx => by simp at hx; subst hx; rfl) (by unfold maxLen; omega) (by omega) (by simp; omega) ?_; intro v' w3 hown' hgrow3 hnil3))
          obtain ⟨A1, A2, A3⟩ := ow_new GP2.out G2 GB2.out (Nat.le_refl _) hown' hgrow3
          have B2 : Hid (Ow w3 (w.heap.size + 1) v' (cols ns (p + 1)).length (cols ns (p + 1))) := Lib.hid (by rw [CN.out, List.length_append]; exact A2)
          have B3 := Lib.hid A3
          clear hown' hgrow3 hnil3 A2 A3
          go_roundw
          case rel => exact ⟨p + 1, by omega, by go_num, A1, B2, GN2, B3⟩
          case measure => simp [intOf]; omega
      · obtain ⟨g, cap, rfl, _, _⟩ := q1.form (by omega)
        have R := Lib.hid (sorted_no p hp6 (bad_many (by rw [← HN.out]; omega)))
        have m1 : (1 : Int) < ((n + 1 + 1 : Nat) : Int) := by omega
        have m2 : (1 : Int) < (n : Int) + 1 + 1 := by omega
        clear q1
        go_wp2_with fail
        go_ret
        exact ⟨ret_bool R.out.symm, GB2.out⟩
    · obtain rfl : p = 6 := by omega
      have R := Lib.hid (sorted_yes HV.out GN.out)
      go_wp2_with fail
      go_ret
      exact ⟨ret_bool R.out.symm, GB.out⟩

end Go.Proofs.Ytemiljokdedidac.base
