/-
  Replays on the program's side, walked: some pours taken out, one rack, the last one.
-/
/-
  Replays on the model's side, walked: what the exported functions answer.
-/
/-
  Replays on the program's side, walked: what the exported functions answer.
-/
import Derived.Test.YtalngdccjoafhabRyCZ
import Derived.Test.YtalngdccjoafhabRyI
import Derived.Test.YtalngdccjoafhabSortSZ
import Derived.Test.YtalngdccjoafhabRyS

section
namespace Go.Proofs.Ytalngdccjoafhab.base
open Go.ChangeShapes Go.WideShapes Go.ChangeAt Go.RowKit
set_option linter.unusedVariables false
set_option linter.unusedSimpArgs false

theorem keptDrewY {w W : World} (h : Kept w W) : Kept w W.drew := ⟨h.os, h.tape, h.output, h.size, h.block⟩
theorem cells25 : (#[.int .i64 0, .int .i64 0, .int .i64 0, .int .i64 0, .int .i64 0, .int .i64 0, .int .i64 0, .int .i64 0, .int .i64 0, .int .i64 0, .int .i64 0, .int .i64 0, .int .i64 0, .int .i64 0, .int .i64 0, .int .i64 0, .int .i64 0, .int .i64 0, .int .i64 0, .int .i64 0, .int .i64 0, .int .i64 0, .int .i64 0, .int .i64 0, .slice none 0 0] : Array Value) = z25.toArray := rfl

set_option maxHeartbeats 1600000 in
set_option maxRecDepth 100000 in
theorem implIsReplay (ns fs : List Int) (v : Value) (n b : Nat) (w : World) (h24 : ns.length = 24) (hn : n ≤ 1048576) (h : Rw w b v n fs) :
    Calls Try.prog 34 #[rpV ns v] w fun e w' => e = .returned (.bool (rpOk ns fs n)) ∧ Kept w w' := by
  have RY := Ry.box (v := v) w 32 h24
  have HB := Lib.hid ((kept_refl w).alloc (.cells (rpC ns v).toArray 32))
  have HR := Lib.hid (h.alloc (.cells (rpC ns v).toArray 32))
  clear h
  unfold rpV
  go_enter Try.func34, Try.ntmps34
  go_wp2_with (refine guardY (isLdY 32) ?_ ?_; (· rfl); refine load_ry rfl 32 _ rfl w.heap.size rfl _ _ _ RY _ Try.underlying32 rfl ?_ ?_; (· kernel_rfl))
  refine (racks_any ns fs v n b _ h24 hn HR.out).mono ?_
  rintro e w1 ⟨u, rfl, q1, b1⟩
  have S1 := Lib.hid (HB.out.call b1)
  clear q1 b1 HB HR RY
  go_wp2_with fail
  go_ret
  exact ⟨rfl, S1.out⟩

theorem rr_yes {ns fs : List Int} {n : Nat} {k : Nat} (h : rpOk ns fs n = true) (hk : k ≤ n) : rrOk ns fs n (k : Int) = true ∧ rrA ns fs n (k : Int) = doR ns fs k := by
  have e : rrOk ns fs n (k : Int) = true := by unfold rrOk; rw [h, decide_eq_true (by omega)]; rfl
  refine ⟨e, ?_⟩
  unfold rrA
  rw [if_pos e, Int.toNat_natCast]
theorem rr_no {ns fs : List Int} {n : Nat} {k : Int} (h : rrOk ns fs n k = false) : rrA ns fs n k = z24 := by unfold rrA; rw [if_neg (by rw [h]; simp)]
theorem rr_off {ns fs : List Int} {n : Nat} (k : Int) (h : rpOk ns fs n = false) : rrOk ns fs n k = false ∧ rrA ns fs n k = z24 := by
  have e : rrOk ns fs n k = false := by unfold rrOk; rw [h]; rfl
  exact ⟨e, rr_no e⟩
theorem rr_out {ns fs : List Int} {n : Nat} {k : Int} (h : ¬ (0 ≤ k ∧ k ≤ n)) : rrOk ns fs n k = false ∧ rrA ns fs n k = z24 := by
  have e : rrOk ns fs n k = false := by unfold rrOk; rw [decide_eq_false h, Bool.and_false]
  exact ⟨e, rr_no e⟩

set_option maxHeartbeats 1600000 in
set_option maxRecDepth 100000 in
theorem implReplayRack (ns fs : List Int) (v : Value) (n b : Nat) (k : Int) (w : World) (h24 : ns.length = 24) (hn : n ≤ 1048576) (h : Rw w b v n fs) :
    Calls Try.prog 73 #[rpV ns v, .int .i64 k] w fun e w' => e = .returned (.tuple #[row (rrA ns fs n k), .bool (rrOk ns fs n k)]) ∧ Kept w w' := by
  have RY := (Ry.box (v := v) w 32 h24).alloc (.cells #[.int .i64 0, .int .i64 0, .int .i64 0, .int .i64 0, .int .i64 0, .int .i64 0, .int .i64 0, .int .i64 0, .int .i64 0, .int .i64 0, .int .i64 0, .int .i64 0, .int .i64 0, .int .i64 0, .int .i64 0, .int .i64 0, .int .i64 0, .int .i64 0, .int .i64 0, .int .i64 0, .int .i64 0, .int .i64 0, .int .i64 0, .int .i64 0] 30)
  have Z := (Has.zero24 (w.alloc (.cells (rpC ns v).toArray 32)) 30).at (size1 _ _)
  have HB := Lib.hid (((kept_refl w).alloc (.cells (rpC ns v).toArray 32)).alloc (.cells #[.int .i64 0, .int .i64 0, .int .i64 0, .int .i64 0, .int .i64 0, .int .i64 0, .int .i64 0, .int .i64 0, .int .i64 0, .int .i64 0, .int .i64 0, .int .i64 0, .int .i64 0, .int .i64 0, .int .i64 0, .int .i64 0, .int .i64 0, .int .i64 0, .int .i64 0, .int .i64 0, .int .i64 0, .int .i64 0, .int .i64 0, .int .i64 0] 30))
  have HR := Lib.hid ((h.alloc (.cells (rpC ns v).toArray 32)).alloc (.cells #[.int .i64 0, .int .i64 0, .int .i64 0, .int .i64 0, .int .i64 0, .int .i64 0, .int .i64 0, .int .i64 0, .int .i64 0, .int .i64 0, .int .i64 0, .int .i64 0, .int .i64 0, .int .i64 0, .int .i64 0, .int .i64 0, .int .i64 0, .int .i64 0, .int .i64 0, .int .i64 0, .int .i64 0, .int .i64 0, .int .i64 0, .int .i64 0] 30))
  clear h
  rw [row_ints]
  unfold rpV
  go_enter Try.func73, Try.ntmps73
  go_upto_region 1 with fail
  generalize ((w.alloc (.cells (rpC ns v).toArray 32)).alloc (.cells #[.int .i64 0, .int .i64 0, .int .i64 0, .int .i64 0, .int .i64 0, .int .i64 0, .int .i64 0, .int .i64 0, .int .i64 0, .int .i64 0, .int .i64 0, .int .i64 0, .int .i64 0, .int .i64 0, .int .i64 0, .int .i64 0, .int .i64 0, .int .i64 0, .int .i64 0, .int .i64 0, .int .i64 0, .int .i64 0, .int .i64 0, .int .i64 0] 30)) = W at *
  go_wp2_with (refine guardY (isLdY 32) ?_ ?_; (· rfl); refine load_ry rfl 32 _ rfl w.heap.size rfl _ _ _ RY _ Try.underlying32 rfl ?_ ?_; (· kernel_rfl))
  refine (racks_any ns fs v n b _ h24 hn HR.out).mono ?_
  rintro e w1 ⟨u, rfl, q1, b1⟩
  replace Z := Z.below b1
  replace HB := Lib.hid (HB.out.call b1)
  have HL := Lib.hid (doR_len h24 fs)
  clear b1 HR RY
  have zz : z24.length = 24 := rfl
  cases hok : rpOk ns fs n with
  | false =>
    have E := Lib.hid (rr_off k hok)
    have S1 := Lib.hid (Z.putAll z24 rfl)
    have S2 := Lib.hid (HB.out.puts (b := w.heap.size + 1) (by omega) 0 (ints z24))
    clear hok q1
    go_wp2_with (first | (refine guardY (isBdY 30) ?_ ?_; (· rfl); refine build_law rfl 30 rfl _ buildRack ?_) | (refine guardY (isStY 30) ?_ ?_; (· rfl); (refine store_at rfl 30 _ _ rfl _ _ rfl rfl ?_ 24 ?_ ?_ ?_ ?_; rotate_left; (· (repeat (first | (with_reducible assumption) | ((with_reducible refine Has.box _ _ ?_ ?_) <;> (first | assumption | decide)) | (with_reducible refine Has.alloc ?_ _) | ((with_reducible refine Has.putOther ?_ _ _ ?_); rotate_left; omega; skip) | ((with_reducible refine Has.below ?_ ?_); rotate_left; assumption)))); (· (first | assumption | rfl)); (· kernel_rfl))))
    exact bodyPost_ret (res_has1 rfl _ _ (w.heap.size + 1) z24 24 _ (.bool false) rfl rfl S1.out Try.underlying30 rfl (by kernel_rfl)) rfl ⟨by rw [E.out.1, E.out.2], S2.out⟩
  | true =>
    rw [rk_yes hok] at q1
    obtain ⟨ga, gc, rfl⟩ := q1.shape
    have hl := rks_len ns fs n
    rw [hl]
    have n60 := rp_le hok
    by_cases hk : 0 ≤ k ∧ k ≤ n
    · obtain ⟨j, rfl⟩ : ∃ j : Nat, k = (j : Int) := ⟨k.toNat, by omega⟩
      have hj : j ≤ n := by omega
      have E := Lib.hid (rr_yes hok hj)
      obtain ⟨gg, cc, he, hg0, hg1⟩ := q1.form (by rw [hl]; omega)
      injection he with e1 _ e3
      subst e1
      subst e3
      rw [hl] at q1
      have RG := Lib.hid (q1.range hl.symm j (by omega))
      rw [rks_get ns fs n j hj] at RG
      have hR := HL.out j
      obtain ⟨R, hRR⟩ : ∃ R, doR ns fs j = R := ⟨_, rfl⟩
      rw [hRR] at RG hR E
      have hi1 : (Try.prog.info? 30).map (·.size) = some (ints R).length := by rw [ints_len, hR]; kernel_rfl
      have S1 := Lib.hid (Z.putAll R hR)
      have S2 := Lib.hid (HB.out.puts (b := w.heap.size + 1) (by omega) 0 (ints R))
      have k1 : (j : Int) < (n : Int) + 1 := by omega
      have k2 : decide ((n : Int) + 1 ≤ (j : Int)) = false := by simp; omega
      have k3 : decide ((j : Int) < 0) = false := by simp
      have k4 : (0 : Int) ≤ (j : Int) := by omega
      have k5 : j < n + 1 := by omega
      have k6 : decide (n + 1 ≤ j) = false := by simp; omega
      have HI := Lib.hid hi1
      clear hok q1 hk hRR hl hi1
      go_wp2_with (first | (refine guardY (isLdY 30) ?_ ?_; (· rfl); refine wpList_load_mid rfl 30 _ rfl gg (j * 24) rfl (ints R) _ RG.out Try.underlying30 rfl HI.out ?_) | (refine guardY (isStY 30) ?_ ?_; (· rfl); refine store_at rfl 30 _ _ rfl _ R rfl rfl z24 24 Z hR ?_ ?_; (· kernel_rfl)))
      exact bodyPost_ret (res_has1 rfl _ _ (w.heap.size + 1) R 24 _ (.bool true) rfl rfl S1.out Try.underlying30 rfl (by kernel_rfl)) rfl ⟨by rw [E.out.1, E.out.2], S2.out⟩
    · have E := Lib.hid (rr_out (ns := ns) (fs := fs) hk)
      have S1 := Lib.hid (Z.putAll z24 rfl)
      have S2 := Lib.hid (HB.out.puts (b := w.heap.size + 1) (by omega) 0 (ints z24))
      by_cases h0 : k < 0
      · clear hok q1 hk hl
        go_wp2_with (first | (refine guardY (isBdY 30) ?_ ?_; (· rfl); refine build_law rfl 30 rfl _ buildRack ?_) | (refine guardY (isStY 30) ?_ ?_; (· rfl); (refine store_at rfl 30 _ _ rfl _ _ rfl rfl ?_ 24 ?_ ?_ ?_ ?_; rotate_left; (· (repeat (first | (with_reducible assumption) | ((with_reducible refine Has.box _ _ ?_ ?_) <;> (first | assumption | decide)) | (with_reducible refine Has.alloc ?_ _) | ((with_reducible refine Has.putOther ?_ _ _ ?_); rotate_left; omega; skip) | ((with_reducible refine Has.below ?_ ?_); rotate_left; assumption)))); (· (first | assumption | rfl)); (· kernel_rfl))))
        exact bodyPost_ret (res_has1 rfl _ _ (w.heap.size + 1) z24 24 _ (.bool false) rfl rfl S1.out Try.underlying30 rfl (by kernel_rfl)) rfl ⟨by rw [E.out.1, E.out.2], S2.out⟩
      · have k1 : (n : Int) + 1 ≤ k := by omega
        have k0 : decide (k < 0) = false := by simpa using h0
        clear hok q1 hk hl h0
        go_wp2_with (first | (refine guardY (isBdY 30) ?_ ?_; (· rfl); refine build_law rfl 30 rfl _ buildRack ?_) | (refine guardY (isStY 30) ?_ ?_; (· rfl); (refine store_at rfl 30 _ _ rfl _ _ rfl rfl ?_ 24 ?_ ?_ ?_ ?_; rotate_left; (· (repeat (first | (with_reducible assumption) | ((with_reducible refine Has.box _ _ ?_ ?_) <;> (first | assumption | decide)) | (with_reducible refine Has.alloc ?_ _) | ((with_reducible refine Has.putOther ?_ _ _ ?_); rotate_left; omega; skip) | ((with_reducible refine Has.below ?_ ?_); rotate_left; assumption)))); (· (first | assumption | rfl)); (· kernel_rfl))))
        exact bodyPost_ret (res_has1 rfl _ _ (w.heap.size + 1) z24 24 _ (.bool false) rfl rfl S1.out Try.underlying30 rfl (by kernel_rfl)) rfl ⟨by rw [E.out.1, E.out.2], S2.out⟩

set_option maxHeartbeats 1600000 in
set_option maxRecDepth 100000 in
theorem last_any (ns fs : List Int) (v : Value) (n b : Nat) (w : World) (h24 : ns.length = 24) (hn : n ≤ 1048576) (h : Rw w b v n fs) :
    Calls Try.prog 43 #[rpV ns v] w fun e w' => e = .returned (.tuple #[row (rrA ns fs n (n : Nat)), .bool (rpOk ns fs n)]) ∧ Kept w w' := by
  obtain ⟨a, cap, rfl⟩ := h.shape
  have RY := (Ry.box (v := .slice a n cap) w 32 h24).alloc (.cells #[.int .i64 0, .int .i64 0, .int .i64 0, .int .i64 0, .int .i64 0, .int .i64 0, .int .i64 0, .int .i64 0, .int .i64 0, .int .i64 0, .int .i64 0, .int .i64 0, .int .i64 0, .int .i64 0, .int .i64 0, .int .i64 0, .int .i64 0, .int .i64 0, .int .i64 0, .int .i64 0, .int .i64 0, .int .i64 0, .int .i64 0, .int .i64 0] 30)
  have Z := (Has.zero24 (w.alloc (.cells (rpC ns (.slice a n cap)).toArray 32)) 30).at (size1 _ _)
  have HB := Lib.hid (((kept_refl w).alloc (.cells (rpC ns (.slice a n cap)).toArray 32)).alloc (.cells #[.int .i64 0, .int .i64 0, .int .i64 0, .int .i64 0, .int .i64 0, .int .i64 0, .int .i64 0, .int .i64 0, .int .i64 0, .int .i64 0, .int .i64 0, .int .i64 0, .int .i64 0, .int .i64 0, .int .i64 0, .int .i64 0, .int .i64 0, .int .i64 0, .int .i64 0, .int .i64 0, .int .i64 0, .int .i64 0, .int .i64 0, .int .i64 0] 30))
  have HR := Lib.hid ((h.alloc (.cells (rpC ns (.slice a n cap)).toArray 32)).alloc (.cells #[.int .i64 0, .int .i64 0, .int .i64 0, .int .i64 0, .int .i64 0, .int .i64 0, .int .i64 0, .int .i64 0, .int .i64 0, .int .i64 0, .int .i64 0, .int .i64 0, .int .i64 0, .int .i64 0, .int .i64 0, .int .i64 0, .int .i64 0, .int .i64 0, .int .i64 0, .int .i64 0, .int .i64 0, .int .i64 0, .int .i64 0, .int .i64 0] 30))
  have EK : Hid (rrOk ns fs n (n : Nat) = rpOk ns fs n) := Lib.hid (by unfold rrOk; rw [decide_eq_true (by omega), Bool.and_true])
  have hR := rrA_len h24 fs n (n : Nat)
  have KR := Lib.hid (fun W q => implReplayRack ns fs (.slice a n cap) n b (n : Nat) W h24 hn q)
  clear h
  rw [EK.out] at KR
  generalize rrA ns fs n (n : Nat) = R at *
  rw [row_ints] at *
  unfold rpV at *
  go_enter Try.func43, Try.ntmps43
  go_upto_region 1 with fail
  generalize ((w.alloc (.cells (rpC ns (.slice a n cap)).toArray 32)).alloc (.cells #[.int .i64 0, .int .i64 0, .int .i64 0, .int .i64 0, .int .i64 0, .int .i64 0, .int .i64 0, .int .i64 0, .int .i64 0, .int .i64 0, .int .i64 0, .int .i64 0, .int .i64 0, .int .i64 0, .int .i64 0, .int .i64 0, .int .i64 0, .int .i64 0, .int .i64 0, .int .i64 0, .int .i64 0, .int .i64 0, .int .i64 0, .int .i64 0] 30)) = W at *
  have c24 := RY.pours
  go_wp2_with (refine guardY (isLdY 32) ?_ ?_; (· rfl); refine load_ry rfl 32 _ rfl w.heap.size rfl _ _ _ RY _ Try.underlying32 rfl ?_ ?_; (· kernel_rfl))
  refine (KR.out _ HR.out).mono ?_
  rintro e w1 ⟨rfl, b1⟩
  replace Z := Z.below b1
  replace HB := Lib.hid (HB.out.call b1)
  have S1 := Lib.hid (Z.putAll R hR)
  have S2 := Lib.hid (HB.out.puts (b := w.heap.size + 1) (by omega) 0 (ints R))
  clear b1 HR RY c24
  go_wp2_with (refine guardY (isStY 30) ?_ ?_; (· rfl); (refine store_at rfl 30 _ _ rfl _ _ rfl rfl ?_ 24 ?_ ?_ ?_ ?_; rotate_left; (· (repeat (first | (with_reducible assumption) | ((with_reducible refine Has.box _ _ ?_ ?_) <;> (first | assumption | decide)) | (with_reducible refine Has.alloc ?_ _) | ((with_reducible refine Has.putOther ?_ _ _ ?_); rotate_left; omega; skip) | ((with_reducible refine Has.below ?_ ?_); rotate_left; assumption)))); (· (first | assumption | rfl)); (· kernel_rfl)))
  exact bodyPost_ret (res_has1 rfl _ _ (w.heap.size + 1) R 24 _ (.bool (rpOk ns fs n)) rfl rfl S1.out Try.underlying30 rfl (by kernel_rfl)) rfl ⟨rfl, S2.out⟩
end Go.Proofs.Ytalngdccjoafhab.base
end

section
namespace Go.Proofs.Ytalngdccjoafhab.base
open Go.ChangeShapes Go.WideShapes Go.ChangeAt Go.RowKit
set_option linter.unusedVariables false
set_option linter.unusedSimpArgs false

/-- A replay as an answer. -/
def RepPost (OK : Bool) (R : List Int) (N : Nat) (F : List Int) (w : World) (e : Ending) (w' : World) : Prop := ∃ u : Value, e = .returned (.tuple #[rpV (orR OK R) u, .bool OK]) ∧ Rw w' w.heap.size u (orN OK N) (orF OK F) ∧ Kept w w'
theorem Rw.nil (w : World) (b : Nat) : Rw w b (.slice none 0 0) 0 [] := ⟨rfl, .inl ⟨rfl, none, 0, rfl⟩⟩
theorem undo_eq {fs : List Int} {n j : Nat} (hl : fs.length = n * 2) (hj : j ≤ n) : outF fs (n - j) n = fs.take ((n - j) * 2) := by
  unfold outF; rw [List.drop_of_length_le (by omega), List.append_nil]
theorem upN_le (ns fs : List Int) (n : Nat) (k : Int) : orN (upOk ns fs n k) (n - k.toNat) ≤ 60 := by
  cases h : upOk ns fs n k with
  | false => exact Nat.zero_le _
  | true =>
    unfold upOk at h
    have := rp_le (Bool.and_eq_true_iff.1 h).1
    unfold orN
    rw [if_pos rfl]; omega
theorem ds_yes {ns fs : List Int} {n : Nat} (h : rpOk ns fs n = true) : dsA ns fs n = sortedA (doR ns fs n) := by unfold dsA; rw [h]; rfl
theorem ds_no {ns fs : List Int} {n : Nat} (h : rpOk ns fs n = false) : dsA ns fs n = false := by unfold dsA; rw [h]; rfl
theorem up_yes {ns fs : List Int} {n j : Nat} (h : rpOk ns fs n = true) (hj : j ≤ n) : upOk ns fs n (j : Int) = true := by unfold upOk; rw [h, decide_eq_true (by omega)]; rfl
theorem up_no {ns fs : List Int} {n : Nat} (k : Int) (h : rpOk ns fs n = false) : upOk ns fs n k = false := by unfold upOk; rw [h]; rfl
theorem up_out {ns fs : List Int} {n : Nat} {k : Int} (h : ¬ (0 ≤ k ∧ k ≤ n)) : upOk ns fs n k = false := by unfold upOk; rw [decide_eq_false h, Bool.and_false]

set_option maxHeartbeats 1600000 in
set_option maxRecDepth 100000 in
theorem specIsReplay (ns fs : List Int) (v : Value) (n b : Nat) (w : World) (h24 : ns.length = 24) (hn : n ≤ 1048576) (h : Rw w b v n fs) :
    Calls Try.prog 27 #[rpV ns v] w fun e w' => e = .returned (.bool (rpOk ns fs n)) ∧ Kept w w' := by
  have RY := Ry.box (v := v) w 32 h24
  have HB := Lib.hid ((kept_refl w).alloc (.cells (rpC ns v).toArray 32))
  have HR := Lib.hid (h.alloc (.cells (rpC ns v).toArray 32))
  clear h
  unfold rpV
  go_enter Try.func27, Try.ntmps27
  go_wp2_with (refine guardY (isLdY 32) ?_ ?_; (· rfl); refine load_ry rfl 32 _ rfl w.heap.size rfl _ _ _ RY _ Try.underlying32 rfl ?_ ?_; (· kernel_rfl))
  refine (l11Racks_any ns fs v n b _ h24 hn HR.out).mono ?_
  rintro e w1 ⟨u, rfl, q1, b1⟩
  have S1 := Lib.hid (HB.out.call b1)
  clear q1 b1 HB HR RY
  go_wp2_with fail
  go_ret
  exact ⟨rfl, S1.out⟩

end Go.Proofs.Ytalngdccjoafhab.base
end

section
namespace Go.Proofs.Ytalngdccjoafhab.base
open Go.ChangeShapes Go.WideShapes Go.ChangeAt Go.RowKit
set_option linter.unusedVariables false
set_option linter.unusedSimpArgs false

set_option maxHeartbeats 1600000 in
set_option maxRecDepth 100000 in
theorem implDoesSolve (ns fs : List Int) (v : Value) (n b : Nat) (w : World) (h24 : ns.length = 24) (hn : n ≤ 1048576) (h : Rw w b v n fs) :
    Calls Try.prog 56 #[rpV ns v] w fun e w' => e = .returned (.tuple #[.bool (dsA ns fs n), .bool (rpOk ns fs n)]) ∧ Kept w w' := by
  have RY := Ry.box (v := v) w 32 h24
  have HB := Lib.hid ((kept_refl w).alloc (.cells (rpC ns v).toArray 32))
  have HR := Lib.hid (h.alloc (.cells (rpC ns v).toArray 32))
  have hR := rrA_len h24 fs n (n : Nat)
  clear h
  unfold rpV
  go_enter Try.func56, Try.ntmps56
  go_wp2_with (refine guardY (isLdY 32) ?_ ?_; (· rfl); refine load_ry rfl 32 _ rfl w.heap.size rfl _ _ _ RY _ Try.underlying32 rfl ?_ ?_; (· kernel_rfl))
  refine (last_any ns fs v n b _ h24 hn HR.out).mono ?_
  rintro e w1 ⟨rfl, b1⟩
  rw [row_ints]
  have ER : Hid (rpOk ns fs n = true → rrA ns fs n (n : Nat) = doR ns fs n) := Lib.hid (fun h => (rr_yes h (Nat.le_refl n)).2)
  have A1 := Has.box w1 30 hR (by omega)
  replace HB := Lib.hid ((HB.out.call b1).alloc (.cells (ints (rrA ns fs n (n : Nat))).toArray 30))
  clear b1 HR RY
  cases hok : rpOk ns fs n with
  | false =>
    have E := Lib.hid (ds_no hok)
    have OKH := Lib.hid hok
    clear hok ER
    generalize rrA ns fs n (n : Nat) = R at *
    go_wp2_with (refine guardY (isStY 30) ?_ ?_; (· rfl); (refine store_new rfl 30 _ _ rfl _ _ _ rfl _ rfl _ rfl rfl ?_ ?_ ?_; (· (first | assumption | rfl)); (· kernel_rfl)))
    go_ret2
    exact ⟨by rw [E.out, OKH.out]; rfl, HB.out⟩
  | true =>
    have E := Lib.hid (ds_yes hok)
    have OKH := Lib.hid hok
    have VV := Lib.hid (do_valid h24 (rp_do hok))
    have e1 := ER.out hok
    obtain ⟨R, hRR⟩ : ∃ R, doR ns fs n = R := ⟨_, rfl⟩
    rw [hRR] at E VV e1
    rw [e1] at hR A1 HB ⊢
    clear hok ER hRR e1
    go_wp2_with (first | (refine guardY (isStY 30) ?_ ?_; (· rfl); (refine store_new rfl 30 _ _ rfl _ _ _ rfl _ rfl _ rfl rfl ?_ ?_ ?_; (· (first | assumption | rfl)); (· kernel_rfl))) | (refine guardY (isLdY 30) ?_ ?_; (· rfl); (refine load_has rfl 30 _ rfl _ rfl ?_ 24 ?_ _ Try.underlying30 rfl ?_ ?_; rotate_left; (· (repeat (first | (with_reducible assumption) | ((with_reducible refine Has.box _ _ ?_ ?_) <;> (first | assumption | decide)) | (with_reducible refine Has.alloc ?_ _) | ((with_reducible refine Has.putOther ?_ _ _ ?_); rotate_left; omega; skip) | ((with_reducible refine Has.below ?_ ?_); rotate_left; assumption)))); (· kernel_rfl))))
    refine (implSorted R _ hR).mono ?_
    rintro e w2 ⟨rfl, b2⟩
    rw [VV.out]
    have S1 := Lib.hid (HB.out.call b2)
    clear b2 HB A1
    go_wp2_with fail
    go_ret2
    exact ⟨by rw [E.out, OKH.out]; rfl, S1.out⟩

end Go.Proofs.Ytalngdccjoafhab.base
end
