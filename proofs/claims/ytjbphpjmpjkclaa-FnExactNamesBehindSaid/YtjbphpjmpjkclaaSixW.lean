/-
  Renamings and orders are told, on both sides, walked.
-/
import Derived.Test.YtjbphpjmpjkclaaSix
namespace Go.Proofs.Ytjbphpjmpjkclaa.base
open Go.ChangeShapes Go.WideShapes Go.ChangeAt Go.RowKit
set_option linter.unusedVariables false
set_option linter.unusedSimpArgs false

theorem Has.zero6x (w : World) (T : TypeId) : Has (w.alloc (.cells #[.int .i64 0, .int .i64 0, .int .i64 0, .int .i64 0, .int .i64 0, .int .i64 0] T)) w.heap.size z6x 6 := Has.box (ns := z6x) w T rfl (by decide)
theorem Has.asL {w : World} {b : Nat} {ns ms : List Int} {n : Nat} (h : Has w b ns n) (e : ns = ms) : Has w b ms n := e ▸ h

set_option maxHeartbeats 400000 in
theorem toIntA6_any (ns : List Int) (w : World) (h6 : ns.length = 6) :
    Calls Try.prog 10 #[row ns] w fun e w' => e = .returned (row ns) ∧ Kept w w' := by
  have HB := Lib.hid ((((kept_refl w).alloc (.cells (ints ns).toArray 22)).alloc (.cells #[.int .i64 0, .int .i64 0, .int .i64 0, .int .i64 0, .int .i64 0, .int .i64 0] 22)).alloc (.cells #[.int .i64 0, .int .i64 0, .int .i64 0, .int .i64 0, .int .i64 0, .int .i64 0] 22))
  have H := ((Has.box w 22 h6 (by omega)).alloc (.cells #[.int .i64 0, .int .i64 0, .int .i64 0, .int .i64 0, .int .i64 0, .int .i64 0] 22)).alloc (.cells #[.int .i64 0, .int .i64 0, .int .i64 0, .int .i64 0, .int .i64 0, .int .i64 0] 22)
  have Z := ((Has.zero6x (w.alloc (.cells (ints ns).toArray 22)) 22).at (size1 _ _)).alloc (.cells #[.int .i64 0, .int .i64 0, .int .i64 0, .int .i64 0, .int .i64 0, .int .i64 0] 22)
  have Y := ((Has.zero6x ((w.alloc (.cells (ints ns).toArray 22)).alloc (.cells #[.int .i64 0, .int .i64 0, .int .i64 0, .int .i64 0, .int .i64 0, .int .i64 0] 22)) 22).at (c := w.heap.size + 1 + 1) (by simp)).asL (mixUp_0 6 (fun j => ns.getD j 0) (ns := z6x) rfl).symm
  rw [row_ints]
  go_enter Try.func10, Try.ntmps10
  go_wp2_with fail
  have HL := Lib.hid h6
  clear h6
  generalize (((w.alloc (.cells (ints ns).toArray 22)).alloc (.cells #[.int .i64 0, .int .i64 0, .int .i64 0, .int .i64 0, .int .i64 0, .int .i64 0] 22)).alloc (.cells #[.int .i64 0, .int .i64 0, .int .i64 0, .int .i64 0, .int .i64 0, .int .i64 0] 22)) = W at *
  go_loopw [4] (fun z wr => ∃ k : Nat, k ≤ 6 ∧ z = .int .i64 k ∧ Has wr w.heap.size ns 6 ∧ Has wr (w.heap.size + 1) z6x 6 ∧ Has wr (w.heap.size + 1 + 1) (mixUp 6 (fun j => ns.getD j 0) (fun j => z6x.getD j 0) k) 6 ∧ Hid (Kept w wr)) (fun z _ => 6 - (intOf z).toNat)
  case atStart => exact ⟨0, by omega, rfl, H, Z, Y, HB⟩
  case round =>
    obtain ⟨k, hk, rfl, GH, GZ, GY, GB⟩ := hrel
    by_cases h : k < 6
    · have c1 := GH.cell k h
      have f1 := GY.free k h
      have c2 := GY.cell k h
      have hki : (k : Int) < 6 := by omega
      have S0 := GY.set k (ns.getD k 0) h
      have S1 := Lib.hid (S0.asL (mixUp_set 6 (fun j => ns.getD j 0) (fun j => z6x.getD j 0) k))
      have S2 := Lib.hid (GH.setOther (b' := w.heap.size + 1 + 1) k (.int .i64 (ns.getD k 0)) (by omega))
      have S3 := Lib.hid (GZ.setOther (b' := w.heap.size + 1 + 1) k (.int .i64 (ns.getD k 0)) (by omega))
      have S4 := Lib.hid (GB.out.set (b := w.heap.size + 1 + 1) (by omega) k (.int .i64 (ns.getD k 0)))
      clear S0 GY GH GZ GB
      generalize ns.getD k 0 = x at *
      go_wp2_with fail
      go_roundw
      case rel => exact ⟨k + 1, by omega, by go_num, S2.out, S3.out, S1.out, S4⟩
      case measure => simp [intOf]; omega
    · obtain rfl : k = 6 := by omega
      have GY2 := GY.asL (mixUp_copy (fun j => z6x.getD j 0) HL.out)
      have hl := HL.out
      have S1 := Lib.hid (GZ.putAll ns hl)
      have S2 := Lib.hid (GB.out.puts (b := w.heap.size + 1) (by omega) 0 (ints ns))
      clear GY
      go_wp2_with (first | (refine load_has rfl 22 _ rfl _ rfl ?_ 6 ?_ _ Try.underlying22 rfl ?_ ?_; rotate_left; (· (repeat (first | (with_reducible assumption) | ((with_reducible refine Has.box _ _ ?_ ?_) <;> (first | assumption | decide)) | (with_reducible refine Has.alloc ?_ _) | ((with_reducible refine Has.putOther ?_ _ _ ?_); rotate_left; omega; skip) | ((with_reducible refine Has.below ?_ ?_); rotate_left; assumption)))); (· kernel_rfl)) | (refine store_at rfl 22 _ _ rfl _ _ rfl rfl ?_ 6 ?_ ?_ ?_ ?_; rotate_left; (· (repeat (first | (with_reducible assumption) | ((with_reducible refine Has.box _ _ ?_ ?_) <;> (first | assumption | decide)) | (with_reducible refine Has.alloc ?_ _) | ((with_reducible refine Has.putOther ?_ _ _ ?_); rotate_left; omega; skip) | ((with_reducible refine Has.below ?_ ?_); rotate_left; assumption)))); (· (first | assumption | rfl)); (· kernel_rfl)))
      exact bodyPost_ret (res_has rfl _ _ (w.heap.size + 1) ns 6 _ rfl S1.out Try.underlying22 rfl (by kernel_rfl)) rfl ⟨rfl, S2.out⟩

set_option maxHeartbeats 400000 in
theorem l1HasA (b n k : Nat) (cap : Nat) (ns : List Int) (x : Int) (w : World) (H : Has w b ns n) (hk : k ≤ n) (hn : n ≤ 100) :
    Calls Try.prog 36 #[.slice (some ⟨b, 0, none⟩) k cap, .int .i64 x] w fun e w' => e = .returned (.bool (decide (x ∈ ns.take k))) ∧ w' = w := by
  go_enter Try.func36, Try.ntmps36
  go_wp2_with fail
  go_loop [5] (fun i => ∃ j : Nat, j ≤ k ∧ i = .int .i64 j ∧ Hid (decide (x ∈ ns.take j) = false)) (fun i => k - (intOf i).toNat)
  case atStart => exact ⟨0, by omega, rfl, Lib.hid (by simp)⟩
  case round =>
    obtain ⟨j, hj, rfl, HN⟩ := hrel
    by_cases h : j < k
    · have c0 := H.cell j (by omega)
      have hji : (j : Int) < (k : Int) := by omega
      have hl := H.len
      by_cases e : ns.getD j 0 = x
      · have R := Lib.hid (show decide (x ∈ ns.take k) = true by
          rw [decide_eq_true_eq]
          have h1 := (mem_take_succ ns j x (by omega)).2 (.inl e.symm)
          exact (List.take_subset_take_left ns (by omega : j + 1 ≤ k)) h1)
        rw [e] at c0
        clear e
        go_wp2_with fail
        go_ret
        exact ⟨ret_bool R.out.symm, rfl⟩
      · have N2 := Lib.hid (show decide (x ∈ ns.take (j + 1)) = false by
          rw [decide_eq_false_iff_not, mem_take_succ ns j x (by omega)]
          rintro (h1 | h1)
          · exact e h1.symm
          · exact (decide_eq_false_iff_not.1 HN.out) h1)
        have e1 : (ns.getD j 0 == x) = false := by simpa using e
        clear e
        generalize ns.getD j 0 = y at *
        go_wp2_with fail
        go_round
        case rel => exact ⟨j + 1, by omega, by go_num, N2⟩
        case measure => simp [intOf]; omega
    · obtain rfl : j = k := by omega
      go_wp2_with fail
      go_ret
      exact ⟨ret_bool HN.out.symm, rfl⟩

def seenV (ns : List Int) (k : Nat) (j : Nat) : Value := .bool (decide ((j : Int) ∈ ns.take k))
theorem newAt_new {ns : List Int} {k c : Nat} (e : ns.getD k 0 = (c : Int)) (hc : c < 6) : newAt ns k = !decide ((c : Int) ∈ ns.take k) := by
  unfold newAt
  rw [e, decide_eq_true (by omega), Bool.true_and]
theorem newAt_out {ns : List Int} {k : Nat} (h : ¬ (0 ≤ ns.getD k 0 ∧ ns.getD k 0 < 6)) : newAt ns k = false := by
  unfold newAt
  rw [decide_eq_false (by omega)]; rfl
theorem seenV_step (ns : List Int) (k c : Nat) (e : ns.getD k 0 = (c : Int)) (h : k < ns.length) (j : Nat) : (if j = c then Value.bool true else seenV ns k j) = seenV ns (k + 1) j := by
  unfold seenV
  by_cases hj : j = c
  · subst hj
    rw [if_pos rfl, decide_eq_true ((mem_take_succ ns k _ h).2 (.inl e.symm))]
  · rw [if_neg hj]
    congr 1
    rw [decide_eq_decide, mem_take_succ ns k _ h, e]
    constructor
    · exact .inr
    · rintro (h1 | h1)
      · omega
      · exact h1

set_option maxHeartbeats 800000 in
theorem hasEach_any (ns : List Int) (w : World) (h6 : ns.length = 6) :
    Calls Try.prog 26 #[row ns] w fun e w' => e = .returned (.bool (permL ns)) ∧ Kept w w' := by
  have HB := Lib.hid (((kept_refl w).alloc (.cells (ints ns).toArray 22)).alloc (.cells #[.bool false, .bool false, .bool false, .bool false, .bool false, .bool false] 43))
  have H := (Has.box w 22 h6 (by omega)).alloc (.cells #[.bool false, .bool false, .bool false, .bool false, .bool false, .bool false] 43)
  have R0 := World.rowIs_alloc (w.alloc (.cells (ints ns).toArray 22)) #[.bool false, .bool false, .bool false, .bool false, .bool false, .bool false] 43 (seenV ns 0) (fun i hi => by
    match i, hi with
    | 0, _ => rfl
    | 1, _ => rfl
    | 2, _ => rfl
    | 3, _ => rfl
    | 4, _ => rfl
    | 5, _ => rfl)
  rw [size1] at R0
  have R1 : World.rowIs ((w.alloc (.cells (ints ns).toArray 22)).alloc (.cells #[.bool false, .bool false, .bool false, .bool false, .bool false, .bool false] 43)) (w.heap.size + 1) 43 6 (seenV ns 0) := R0
  have gi := index6 22 Try.underlying22 ns h6
  have HG := Lib.hid gi
  clear R0 gi
  rw [row_ints]
  go_enter Try.func26, Try.ntmps26
  go_wp2_with (refine load_has rfl 22 _ rfl _ rfl ?_ 6 ?_ _ Try.underlying22 rfl ?_ ?_; rotate_left; (· (repeat (first | (with_reducible assumption) | ((with_reducible refine Has.box _ _ ?_ ?_) <;> (first | assumption | decide)) | (with_reducible refine Has.alloc ?_ _) | ((with_reducible refine Has.putOther ?_ _ _ ?_); rotate_left; omega; skip) | ((with_reducible refine Has.below ?_ ?_); rotate_left; assumption)))); (· kernel_rfl))
  have HL := Lib.hid h6
  clear h6 H
  generalize ((w.alloc (.cells (ints ns).toArray 22)).alloc (.cells #[.bool false, .bool false, .bool false, .bool false, .bool false, .bool false] 43)) = W at *
  go_loopw [7] (fun z wr => ∃ k : Nat, k ≤ 6 ∧ z = .int .i64 k ∧ wr.rowIs (w.heap.size + 1) 43 6 (seenV ns k) ∧ Hid (permUp ns k = true) ∧ Hid (Kept w wr)) (fun z _ => 6 - (intOf z).toNat)
  case atStart => exact ⟨0, by omega, rfl, R1, Lib.hid rfl, HB⟩
  case round =>
    obtain ⟨k, hk, rfl, GR, GP, GB⟩ := hrel
    by_cases h : k < 6
    · have g1 := HG.out k h
      have hki : (k : Int) < 6 := by omega
      by_cases hr : 0 ≤ ns.getD k 0 ∧ ns.getD k 0 < 6
      · obtain ⟨c, hce⟩ : ∃ c : Nat, ns.getD k 0 = (c : Int) := ⟨(ns.getD k 0).toNat, by omega⟩
        have hc6 : c < 6 := by omega
        have hci : (c : Int) < 6 := by omega
        have hcn : decide ((c : Int) < 0) = false := by simp
        have hcg : decide (6 ≤ (c : Int)) = false := by simp; omega
        have c0 := GR.cell hc6
        have f0 := GR.frozen c
        have NA := newAt_new hce hc6
        rw [hce] at g1
        by_cases hs : (c : Int) ∈ ns.take k
        · have e0 : seenV ns k c = .bool true := by unfold seenV; rw [decide_eq_true hs]
          rw [e0] at c0
          have PF := Lib.hid (permL_not k h (by rw [NA, decide_eq_true hs]; rfl))
          clear hs e0 NA hr hce f0 GR
          go_wp2_with fail
          go_ret
          exact ⟨ret_bool PF.out.symm, GB.out⟩
        · have e0 : seenV ns k c = .bool false := by unfold seenV; rw [decide_eq_false hs]
          have P2 := Lib.hid (show permUp ns (k + 1) = true by rw [permUp_succ, GP.out, NA, decide_eq_false hs]; rfl)
          have S1 := Lib.hid ((GR.set c (.bool true)).congr (fun j _ => seenV_step ns k c hce (by rw [HL.out]; exact h) j))
          have S2 := Lib.hid (GB.out.set (b := w.heap.size + 1) (by omega) c (.bool true))
          rw [e0] at c0
          clear hs e0 NA hr hce GR GB
          go_wp2_with fail
          go_roundw
          case rel => exact ⟨k + 1, by omega, by go_num, S1.out, P2, S2⟩
          case measure => simp [intOf]; omega
      · have PF := Lib.hid (permL_not k h (newAt_out hr))
        generalize ns.getD k 0 = x at *
        by_cases h0 : x < 0
        · have q0 : decide (x < 0) = true := by simpa using h0
          clear hr h0 GR
          go_wp2_with fail
          go_ret
          exact ⟨ret_bool PF.out.symm, GB.out⟩
        · have q0 : decide (x < 0) = false := by simpa using h0
          have q1 : decide (6 ≤ x) = true := by simp; omega
          clear hr h0 GR
          go_wp2_with fail
          go_ret
          exact ⟨ret_bool PF.out.symm, GB.out⟩
    · obtain rfl : k = 6 := by omega
      go_wp2_with fail
      go_ret
      exact ⟨ret_bool (by unfold permL; rw [GP.out]), GB.out⟩

set_option maxHeartbeats 800000 in
theorem l4Perm_any (ns : List Int) (w : World) (h6 : ns.length = 6) :
    Calls Try.prog 27 #[row ns] w fun e w' => e = .returned (.bool (permL ns)) ∧ Kept w w' := by
  have HB := Lib.hid ((kept_refl w).alloc (.cells (ints ns).toArray 22))
  have H := Has.box w 22 h6 (by omega)
  rw [row_ints]
  go_enter Try.func27, Try.ntmps27
  go_wp2_with fail
  have HL := Lib.hid h6
  clear h6
  go_loopw [3] (fun z wr => ∃ k : Nat, k ≤ 6 ∧ z = .int .i64 k ∧ Has wr w.heap.size ns 6 ∧ Hid (permUp ns k = true) ∧ Hid (Kept w wr)) (fun z _ => 6 - (intOf z).toNat)
  case atStart => exact ⟨0, by omega, rfl, H, Lib.hid rfl, HB⟩
  case round =>
    obtain ⟨k, hk, rfl, GH, GP, GB⟩ := hrel
    by_cases h : k < 6
    · have c1 := GH.cell k h
      have hki : (k : Int) < 6 := by omega
      have hk6 : (k : Int) ≤ 6 := by omega
      have hk0 : (0 : Int) ≤ (k : Int) := by omega
      have HI := Lib.hid (fun W => (l1In_any (ns.getD k 0) 0 5 W).mono fun _ _ h => And.intro h.1 h.2.symm)
      have HS := Lib.hid (fun n => l1HasA w.heap.size 6 k 6 ns (ns.getD k 0) (wr.drewN n) (GH.drewN n) hk (by omega))
      have NF := Lib.hid (permL_not (ns := ns) k h)
      have NT := Lib.hid (permUp_succ ns k)
      by_cases hr : 0 ≤ ns.getD k 0 ∧ ns.getD k 0 ≤ 5
      · rw [decide_eq_true hr] at HI
        by_cases hs : ns.getD k 0 ∈ ns.take k
        · rw [decide_eq_true hs] at HS
          have PF := Lib.hid (NF.out (by unfold newAt; rw [decide_eq_true hs]; simp))
          clear hr hs NF NT
          generalize ns.getD k 0 = x at *
          go_wp2_with fail
          go_quiet (first | (go_at_call 35; exact Calls.quiet_of_same (HI.out _)) | (go_at_call 36; exact Calls.quiet_of_same (HS.out _)))
          have GB2 := Lib.hid (GB.out.drewN nq)
          go_wp2_with fail
          go_ret
          exact ⟨ret_bool PF.out.symm, GB2.out⟩
        · rw [decide_eq_false hs] at HS
          have P2 := Lib.hid (show permUp ns (k + 1) = true by rw [NT.out, GP.out]; unfold newAt; rw [decide_eq_false hs, decide_eq_true hr]; rfl)
          clear hr hs NF NT
          generalize ns.getD k 0 = x at *
          go_wp2_with fail
          go_quiet (first | (go_at_call 35; exact Calls.quiet_of_same (HI.out _)) | (go_at_call 36; exact Calls.quiet_of_same (HS.out _)))
          have GH2 := GH.drewN nq
          have GB2 := Lib.hid (GB.out.drewN nq)
          go_wp2_with fail
          go_roundw
          case rel => exact ⟨k + 1, by omega, by go_num, GH2, P2, GB2⟩
          case measure => simp [intOf]; omega
      · rw [decide_eq_false hr] at HI
        have PF := Lib.hid (NF.out (newAt_out (by omega)))
        clear hr NF NT
        generalize ns.getD k 0 = x at *
        go_wp2_with fail
        go_quiet (first | (go_at_call 35; exact Calls.quiet_of_same (HI.out _)) | (go_at_call 36; exact Calls.quiet_of_same (HS.out _)))
        have GB2 := Lib.hid (GB.out.drewN nq)
        go_wp2_with fail
        go_ret
        exact ⟨ret_bool PF.out.symm, GB2.out⟩
    · obtain rfl : k = 6 := by omega
      go_wp2_with fail
      go_ret
      exact ⟨ret_bool (by unfold permL; rw [GP.out]), GB.out⟩

theorem implIsOrder (ns : List Int) (w : World) (h6 : ns.length = 6) :
    Calls Try.prog 13 #[row ns] w fun e w' => e = .returned (.bool (permL ns)) ∧ Kept w w' := by
  have HB := Lib.hid ((kept_refl w).alloc (.cells (ints ns).toArray 22))
  have H := Has.box w 22 h6 (by omega)
  rw [row_ints]
  go_enter Try.func13, Try.ntmps13
  go_wp2_with (refine load_has rfl 22 _ rfl _ rfl ?_ 6 ?_ _ Try.underlying22 rfl ?_ ?_; rotate_left; (· (repeat (first | (with_reducible assumption) | ((with_reducible refine Has.box _ _ ?_ ?_) <;> (first | assumption | decide)) | (with_reducible refine Has.alloc ?_ _) | ((with_reducible refine Has.putOther ?_ _ _ ?_); rotate_left; omega; skip) | ((with_reducible refine Has.below ?_ ?_); rotate_left; assumption)))); (· kernel_rfl))
  refine (hasEach_any ns _ h6).mono ?_
  rintro e w1 ⟨rfl, b1⟩
  have HB1 := Lib.hid (HB.out.call b1)
  go_wp2_with fail
  go_ret
  exact ⟨rfl, HB1.out⟩

theorem specIsOrder (ns : List Int) (w : World) (h6 : ns.length = 6) :
    Calls Try.prog 12 #[row ns] w fun e w' => e = .returned (.bool (permL ns)) ∧ Kept w w' := by
  have HB := Lib.hid ((kept_refl w).alloc (.cells (ints ns).toArray 22))
  have H := Has.box w 22 h6 (by omega)
  rw [row_ints]
  go_enter Try.func12, Try.ntmps12
  go_wp2_with (refine load_has rfl 22 _ rfl _ rfl ?_ 6 ?_ _ Try.underlying22 rfl ?_ ?_; rotate_left; (· (repeat (first | (with_reducible assumption) | ((with_reducible refine Has.box _ _ ?_ ?_) <;> (first | assumption | decide)) | (with_reducible refine Has.alloc ?_ _) | ((with_reducible refine Has.putOther ?_ _ _ ?_); rotate_left; omega; skip) | ((with_reducible refine Has.below ?_ ?_); rotate_left; assumption)))); (· kernel_rfl))
  refine (l4Perm_any ns _ h6).mono ?_
  rintro e w1 ⟨rfl, b1⟩
  have HB1 := Lib.hid (HB.out.call b1)
  go_wp2_with fail
  go_ret
  exact ⟨rfl, HB1.out⟩

theorem l4Names_any (ns : List Int) (w : World) (h6 : ns.length = 6) :
    Calls Try.prog 25 #[row ns] w fun e w' => e = .returned (.bool (namesB ns)) ∧ Kept w w' := by
  have HB := Lib.hid ((kept_refl w).alloc (.cells (ints ns).toArray 22))
  have H := Has.box w 22 h6 (by omega)
  have c0 := H.cell 0 (by omega)
  rw [row_ints]
  by_cases h0 : ns.getD 0 0 = 0
  · have N := Lib.hid (show permL ns = namesB ns by unfold namesB; rw [decide_eq_true h0]; rfl)
    rw [h0] at c0
    clear h0
    go_enter Try.func25, Try.ntmps25
    go_wp2_with (refine load_has rfl 22 _ rfl _ rfl ?_ 6 ?_ _ Try.underlying22 rfl ?_ ?_; rotate_left; (· (repeat (first | (with_reducible assumption) | ((with_reducible refine Has.box _ _ ?_ ?_) <;> (first | assumption | decide)) | (with_reducible refine Has.alloc ?_ _) | ((with_reducible refine Has.putOther ?_ _ _ ?_); rotate_left; omega; skip) | ((with_reducible refine Has.below ?_ ?_); rotate_left; assumption)))); (· kernel_rfl))
    refine (l4Perm_any ns _ h6).mono ?_
    rintro e w1 ⟨rfl, b1⟩
    have HB1 := Lib.hid (HB.out.call b1)
    go_wp2_with fail
    go_ret
    exact ⟨ret_bool N.out, HB1.out⟩
  · have N := Lib.hid (show false = namesB ns by unfold namesB; rw [decide_eq_false h0]; rfl)
    have q : (ns.getD 0 0 == 0) = false := by simpa using h0
    clear h0
    generalize ns.getD 0 0 = x at *
    go_enter Try.func25, Try.ntmps25
    go_wp2_with fail
    go_ret
    exact ⟨ret_bool N.out, HB.out⟩

theorem implIsRenaming (ns : List Int) (w : World) (h6 : ns.length = 6) :
    Calls Try.prog 11 #[row ns] w fun e w' => e = .returned (.bool (namesB ns)) ∧ Kept w w' := by
  have HB := Lib.hid ((kept_refl w).alloc (.cells (ints ns).toArray 22))
  have H := Has.box w 22 h6 (by omega)
  have c0 := H.cell 0 (by omega)
  rw [row_ints]
  by_cases h0 : ns.getD 0 0 = 0
  · have N := Lib.hid (show permL ns = namesB ns by unfold namesB; rw [decide_eq_true h0]; rfl)
    rw [h0] at c0
    clear h0
    go_enter Try.func11, Try.ntmps11
    go_wp2_with (refine load_has rfl 22 _ rfl _ rfl ?_ 6 ?_ _ Try.underlying22 rfl ?_ ?_; rotate_left; (· (repeat (first | (with_reducible assumption) | ((with_reducible refine Has.box _ _ ?_ ?_) <;> (first | assumption | decide)) | (with_reducible refine Has.alloc ?_ _) | ((with_reducible refine Has.putOther ?_ _ _ ?_); rotate_left; omega; skip) | ((with_reducible refine Has.below ?_ ?_); rotate_left; assumption)))); (· kernel_rfl))
    refine (hasEach_any ns _ h6).mono ?_
    rintro e w1 ⟨rfl, b1⟩
    have HB1 := Lib.hid (HB.out.call b1)
    go_wp2_with fail
    go_ret
    exact ⟨ret_bool N.out, HB1.out⟩
  · have N := Lib.hid (show false = namesB ns by unfold namesB; rw [decide_eq_false h0]; rfl)
    have q : (ns.getD 0 0 == 0) = false := by simpa using h0
    clear h0
    generalize ns.getD 0 0 = x at *
    go_enter Try.func11, Try.ntmps11
    go_wp2_with fail
    go_ret
    exact ⟨ret_bool N.out, HB.out⟩

theorem specIsRenaming (ns : List Int) (w : World) (h6 : ns.length = 6) :
    Calls Try.prog 9 #[row ns] w fun e w' => e = .returned (.bool (namesB ns)) ∧ Kept w w' := by
  have HB := Lib.hid ((kept_refl w).alloc (.cells (ints ns).toArray 22))
  have H := Has.box w 22 h6 (by omega)
  rw [row_ints]
  go_enter Try.func9, Try.ntmps9
  go_wp2_with (refine load_has rfl 22 _ rfl _ rfl ?_ 6 ?_ _ Try.underlying22 rfl ?_ ?_; rotate_left; (· (repeat (first | (with_reducible assumption) | ((with_reducible refine Has.box _ _ ?_ ?_) <;> (first | assumption | decide)) | (with_reducible refine Has.alloc ?_ _) | ((with_reducible refine Has.putOther ?_ _ _ ?_); rotate_left; omega; skip) | ((with_reducible refine Has.below ?_ ?_); rotate_left; assumption)))); (· kernel_rfl))
  refine (l4Names_any ns _ h6).mono ?_
  rintro e w1 ⟨rfl, b1⟩
  have HB1 := Lib.hid (HB.out.call b1)
  go_wp2_with fail
  go_ret
  exact ⟨rfl, HB1.out⟩

set_option maxHeartbeats 400000 in
theorem lawIsOrder (ns : List Int) (w : World) (h0 : ns.length = 6 ∧ ∀ n ∈ ns, (Lit.int .i64 n).wf = true) :
    Calls Try.prog 4 #[row ns] w fun e w' => e = .returned (.bool true) ∧ Kept w w' := by
  have h6 := h0.1
  clear h0
  have HB := Lib.hid ((kept_refl w).alloc (.cells (ints ns).toArray 22))
  have H := Has.box w 22 h6 (by omega)
  rw [row_ints]
  go_enter Try.func4, Try.ntmps4
  go_wp2_with (refine load_has rfl 22 _ rfl _ rfl ?_ 6 ?_ _ Try.underlying22 rfl ?_ ?_; rotate_left; (· (repeat (first | (with_reducible assumption) | ((with_reducible refine Has.box _ _ ?_ ?_) <;> (first | assumption | decide)) | (with_reducible refine Has.alloc ?_ _) | ((with_reducible refine Has.putOther ?_ _ _ ?_); rotate_left; omega; skip) | ((with_reducible refine Has.below ?_ ?_); rotate_left; assumption)))); (· kernel_rfl))
  refine (toIntA6_any ns _ h6).mono ?_
  rintro e w1 ⟨rfl, b1⟩
  have H1 := H.below b1
  have HB1 := Lib.hid (HB.out.call b1)
  clear H HB b1
  go_wp2_with fail
  refine (specIsOrder ns _ h6).mono ?_
  rintro e w2 ⟨rfl, b2⟩
  have H2 := H1.below b2
  have HB2 := Lib.hid (HB1.out.call b2)
  clear H1 HB1 b2
  go_wp2_with (refine load_has rfl 22 _ rfl _ rfl ?_ 6 ?_ _ Try.underlying22 rfl ?_ ?_; rotate_left; (· (repeat (first | (with_reducible assumption) | ((with_reducible refine Has.box _ _ ?_ ?_) <;> (first | assumption | decide)) | (with_reducible refine Has.alloc ?_ _) | ((with_reducible refine Has.putOther ?_ _ _ ?_); rotate_left; omega; skip) | ((with_reducible refine Has.below ?_ ?_); rotate_left; assumption)))); (· kernel_rfl))
  refine (toIntA6_any ns _ h6).mono ?_
  rintro e w3 ⟨rfl, b3⟩
  have HB3 := Lib.hid (HB2.out.call b3)
  clear H2 HB2 b3
  go_wp2_with fail
  refine (implIsOrder ns _ h6).mono ?_
  rintro e w4 ⟨rfl, b4⟩
  have HB4 := Lib.hid (HB3.out.call b4)
  clear HB3 b4
  generalize permL ns = v
  go_wp2_with fail
  go_ret
  exact ⟨rfl, HB4.out⟩

set_option maxHeartbeats 400000 in
theorem lawIsRenaming (ns : List Int) (w : World) (h0 : ns.length = 6 ∧ ∀ n ∈ ns, (Lit.int .i64 n).wf = true) :
    Calls Try.prog 3 #[row ns] w fun e w' => e = .returned (.bool true) ∧ Kept w w' := by
  have h6 := h0.1
  clear h0
  have HB := Lib.hid ((kept_refl w).alloc (.cells (ints ns).toArray 22))
  have H := Has.box w 22 h6 (by omega)
  rw [row_ints]
  go_enter Try.func3, Try.ntmps3
  go_wp2_with (refine load_has rfl 22 _ rfl _ rfl ?_ 6 ?_ _ Try.underlying22 rfl ?_ ?_; rotate_left; (· (repeat (first | (with_reducible assumption) | ((with_reducible refine Has.box _ _ ?_ ?_) <;> (first | assumption | decide)) | (with_reducible refine Has.alloc ?_ _) | ((with_reducible refine Has.putOther ?_ _ _ ?_); rotate_left; omega; skip) | ((with_reducible refine Has.below ?_ ?_); rotate_left; assumption)))); (· kernel_rfl))
  refine (toIntA6_any ns _ h6).mono ?_
  rintro e w1 ⟨rfl, b1⟩
  have H1 := H.below b1
  have HB1 := Lib.hid (HB.out.call b1)
  clear H HB b1
  go_wp2_with fail
  refine (specIsRenaming ns _ h6).mono ?_
  rintro e w2 ⟨rfl, b2⟩
  have H2 := H1.below b2
  have HB2 := Lib.hid (HB1.out.call b2)
  clear H1 HB1 b2
  go_wp2_with (refine load_has rfl 22 _ rfl _ rfl ?_ 6 ?_ _ Try.underlying22 rfl ?_ ?_; rotate_left; (· (repeat (first | (with_reducible assumption) | ((with_reducible refine Has.box _ _ ?_ ?_) <;> (first | assumption | decide)) | (with_reducible refine Has.alloc ?_ _) | ((with_reducible refine Has.putOther ?_ _ _ ?_); rotate_left; omega; skip) | ((with_reducible refine Has.below ?_ ?_); rotate_left; assumption)))); (· kernel_rfl))
  refine (toIntA6_any ns _ h6).mono ?_
  rintro e w3 ⟨rfl, b3⟩
  have HB3 := Lib.hid (HB2.out.call b3)
  clear H2 HB2 b3
  go_wp2_with fail
  refine (implIsRenaming ns _ h6).mono ?_
  rintro e w4 ⟨rfl, b4⟩
  have HB4 := Lib.hid (HB3.out.call b4)
  clear HB3 b4
  generalize namesB ns = v
  go_wp2_with fail
  go_ret
  exact ⟨rfl, HB4.out⟩
end Go.Proofs.Ytjbphpjmpjkclaa.base
