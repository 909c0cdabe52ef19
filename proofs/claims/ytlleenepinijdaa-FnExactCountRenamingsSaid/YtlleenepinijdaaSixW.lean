/-
  Renamings and orders are told, on both sides, walked.
-/
import Derived.Test.YtlleenepinijdaaSix
namespace Go.Proofs.Ytlleenepinijdaa.base
open Go.ChangeShapes Go.WideShapes Go.ChangeAt Go.RowKit
set_option linter.unusedVariables false
set_option linter.unusedSimpArgs false

theorem Has.zero6x (w : World) (T : TypeId) : Has (w.alloc (.cells #[.int .i64 0, .int .i64 0, .int .i64 0, .int .i64 0, .int .i64 0, .int .i64 0] T)) w.heap.size z6x 6 := Has.box (ns := z6x) w T rfl (by decide)
theorem Has.asL {w : World} {b : Nat} {ns ms : List Int} {n : Nat} (h : Has w b ns n) (e : ns = ms) : Has w b ms n := e ▸ h

set_option maxHeartbeats 400000 in
theorem l1HasA (b n k : Nat) (cap : Nat) (ns : List Int) (x : Int) (w : World) (H : Has w b ns n) (hk : k ≤ n) (hn : n ≤ 100) :
    Calls Try.prog 81 #[.slice (some ⟨b, 0, none⟩) k cap, .int .i64 x] w fun e w' => e = .returned (.bool (decide (x ∈ ns.take k))) ∧ w' = w := by
  go_enter Try.func81, Try.ntmps81
  go_wp2_with fail
  go_loop [5] (fun i => ∃ j : Nat, j ≤ k ∧ i = .int .i64 j ∧ Hid (decide (x ∈ ns.take j) = false)) (fun i => k - (intOf i).toNat)
  case atStart => exact ⟨0, by omega, rfl, Lib.hid (by simp)⟩
  case round =>
    obtain ⟨j, hj, rfl, HN⟩ := hrel
    by_cases h : j < k
    · have c0 := H.cell j (by omega)
      have hji : (j : Int) < (k : Int) := by omega
      have hl := H.len
      by_cases e : ns.getD j 0 = x
      · have R := Lib.hid (show decide (x ∈ ns.take k) = true by
          rw [decide_eq_true_eq]
          have h1 := (mem_take_succ ns j x (by omega)).2 (.inl e.symm)
          exact (List.take_subset_take_left ns (by omega : j + 1 ≤ k)) h1)
        rw [e] at c0
        clear e
        go_wp2_with fail
        go_ret
        exact ⟨ret_bool R.out.symm, rfl⟩
      · have N2 := Lib.hid (show decide (x ∈ ns.take (j + 1)) = false by
          rw [decide_eq_false_iff_not, mem_take_succ ns j x (by omega)]
          rintro (h1 | h1)
          · exact e h1.symm
          · exact (decide_eq_false_iff_not.1 HN.out) h1)
        have e1 : (ns.getD j 0 == x) = false := by simpa using e
        clear e
        generalize ns.getD j 0 = y at *
        go_wp2_with fail
        go_round
        case rel => exact ⟨j + 1, by omega, by go_num, N2⟩
        case measure => simp [intOf]; omega
    · obtain rfl : j = k := by omega
      go_wp2_with fail
      go_ret
      exact ⟨ret_bool HN.out.symm, rfl⟩

def seenV (ns : List Int) (k : Nat) (j : Nat) : Value := .bool (decide ((j : Int) ∈ ns.take k))
theorem newAt_new {ns : List Int} {k c : Nat} (e : ns.getD k 0 = (c : Int)) (hc : c < 6) : newAt ns k = !decide ((c : Int) ∈ ns.take k) := by
  unfold newAt
  rw [e, decide_eq_true (by omega), Bool.true_and]
theorem newAt_out {ns : List Int} {k : Nat} (h : ¬ (0 ≤ ns.getD k 0 ∧ ns.getD k 0 < 6)) : newAt ns k = false := by
  unfold newAt
  rw [decide_eq_false (by omega)]; rfl
theorem seenV_step (ns : List Int) (k c : Nat) (e : ns.getD k 0 = (c : Int)) (h : k < ns.length) (j : Nat) : (if j = c then Value.bool true else seenV ns k j) = seenV ns (k + 1) j := by
  unfold seenV
  by_cases hj : j = c
  · subst hj
    rw [if_pos rfl, decide_eq_true ((mem_take_succ ns k _ h).2 (.inl e.symm))]
  · rw [if_neg hj]
    congr 1
    rw [decide_eq_decide, mem_take_succ ns k _ h, e]
    constructor
    · exact .inr
    · rintro (h1 | h1)
      · omega
      · exact h1

set_option maxHeartbeats 800000 in
theorem l4Perm_any (ns : List Int) (w : World) (h6 : ns.length = 6) :
    Calls Try.prog 73 #[row ns] w fun e w' => e = .returned (.bool (permL ns)) ∧ Kept w w' := by
  have HB := Lib.hid ((kept_refl w).alloc (.cells (ints ns).toArray 31))
  have H := Has.box w 31 h6 (by omega)
  rw [row_ints]
  go_enter Try.func73, Try.ntmps73
  go_wp2_with fail
  have HL := Lib.hid h6
  clear h6
  go_loopw [3] (fun z wr => ∃ k : Nat, k ≤ 6 ∧ z = .int .i64 k ∧ Has wr w.heap.size ns 6 ∧ Hid (permUp ns k = true) ∧ Hid (Kept w wr)) (fun z _ => 6 - (intOf z).toNat)
  case atStart => exact ⟨0, by omega, rfl, H, Lib.hid rfl, HB⟩
  case round =>
    obtain ⟨k, hk, rfl, GH, GP, GB⟩ := hrel
    by_cases h : k < 6
    · have c1 := GH.cell k h
      have hki : (k : Int) < 6 := by omega
      have hk6 : (k : Int) ≤ 6 := by omega
      have hk0 : (0 : Int) ≤ (k : Int) := by omega
      have HI := Lib.hid (fun W => (l1In_any (ns.getD k 0) 0 5 W).mono fun _ _ h => And.intro h.1 h.2.symm)
      have HS := Lib.hid (fun n => l1HasA w.heap.size 6 k 6 ns (ns.getD k 0) (wr.drewN n) (GH.drewN n) hk (by omega))
      have NF := Lib.hid (permL_not (ns := ns) k h)
      have NT := Lib.hid (permUp_succ ns k)
      by_cases hr : 0 ≤ ns.getD k 0 ∧ ns.getD k 0 ≤ 5
      · rw [decide_eq_true hr] at HI
        by_cases hs : ns.getD k 0 ∈ ns.take k
        · rw [decide_eq_true hs] at HS
          have PF := Lib.hid (NF.out (by unfold newAt; rw [decide_eq_true hs]; simp))
          clear hr hs NF NT
          generalize ns.getD k 0 = x at *
          go_wp2_with fail
          go_quiet (first | (go_at_call 41; exact Calls.quiet_of_same (HI.out _)) | (go_at_call 81; exact Calls.quiet_of_same (HS.out _)))
          have GB2 := Lib.hid (GB.out.drewN nq)
          go_wp2_with fail
          go_ret
          exact ⟨ret_bool PF.out.symm, GB2.out⟩
        · rw [decide_eq_false hs] at HS
          have P2 := Lib.hid (show permUp ns (k + 1) = true by rw [NT.out, GP.out]; unfold newAt; rw [decide_eq_false hs, decide_eq_true hr]; rfl)
          clear hr hs NF NT
          generalize ns.getD k 0 = x at *
          go_wp2_with fail
          go_quiet (first | (go_at_call 41; exact Calls.quiet_of_same (HI.out _)) | (go_at_call 81; exact Calls.quiet_of_same (HS.out _)))
          have GH2 := GH.drewN nq
          have GB2 := Lib.hid (GB.out.drewN nq)
          go_wp2_with fail
          go_roundw
          case rel => exact ⟨k + 1, by omega, by go_num, GH2, P2, GB2⟩
          case measure => simp [intOf]; omega
      · rw [decide_eq_false hr] at HI
        have PF := Lib.hid (NF.out (newAt_out (by omega)))
        clear hr NF NT
        generalize ns.getD k 0 = x at *
        go_wp2_with fail
        go_quiet (first | (go_at_call 41; exact Calls.quiet_of_same (HI.out _)) | (go_at_call 81; exact Calls.quiet_of_same (HS.out _)))
        have GB2 := Lib.hid (GB.out.drewN nq)
        go_wp2_with fail
        go_ret
        exact ⟨ret_bool PF.out.symm, GB2.out⟩
    · obtain rfl : k = 6 := by omega
      go_wp2_with fail
      go_ret
      exact ⟨ret_bool (by unfold permL; rw [GP.out]), GB.out⟩

theorem l4Names_any (ns : List Int) (w : World) (h6 : ns.length = 6) :
    Calls Try.prog 55 #[row ns] w fun e w' => e = .returned (.bool (namesB ns)) ∧ Kept w w' := by
  have HB := Lib.hid ((kept_refl w).alloc (.cells (ints ns).toArray 31))
  have H := Has.box w 31 h6 (by omega)
  have c0 := H.cell 0 (by omega)
  rw [row_ints]
  by_cases h0 : ns.getD 0 0 = 0
  · have N := Lib.hid (show permL ns = namesB ns by unfold namesB; rw [decide_eq_true h0]; rfl)
    rw [h0] at c0
    clear h0
    go_enter Try.func55, Try.ntmps55
    go_wp2_with (refine load_has rfl 31 _ rfl _ rfl ?_ 6 ?_ _ Try.underlying31 rfl ?_ ?_; rotate_left; (· (repeat (first | (with_reducible assumption) | ((with_reducible refine Has.box _ _ ?_ ?_) <;> (first | assumption | decide)) | (with_reducible refine Has.alloc ?_ _) | ((with_reducible refine Has.putOther ?_ _ _ ?_); rotate_left; omega; skip) | ((with_reducible refine Has.below ?_ ?_); rotate_left; assumption)))); (· kernel_rfl))
    refine (l4Perm_any ns _ h6).mono ?_
    rintro e w1 ⟨rfl, b1⟩
    have HB1 := Lib.hid (HB.out.call b1)
    go_wp2_with fail
    go_ret
    exact ⟨ret_bool N.out, HB1.out⟩
  · have N := Lib.hid (show false = namesB ns by unfold namesB; rw [decide_eq_false h0]; rfl)
    have q : (ns.getD 0 0 == 0) = false := by simpa using h0
    clear h0
    generalize ns.getD 0 0 = x at *
    go_enter Try.func55, Try.ntmps55
    go_wp2_with fail
    go_ret
    exact ⟨ret_bool N.out, HB.out⟩

end Go.Proofs.Ytlleenepinijdaa.base
