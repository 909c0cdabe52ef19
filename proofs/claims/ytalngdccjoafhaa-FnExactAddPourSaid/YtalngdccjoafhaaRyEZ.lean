/-
  Replays on the program's side, walked: some pours taken out, one rack, the last one.
-/
/-
  Replays on the model's side, walked: what the exported functions answer.
-/
/-
  Replays on the program's side, walked: what the exported functions answer.
-/
import Derived.Test.YtalngdccjoafhaaRyCZ
import Derived.Test.YtalngdccjoafhaaRyI
import Derived.Test.YtalngdccjoafhaaSortSZ
import Derived.Test.YtalngdccjoafhaaRyS

section
namespace Go.Proofs.Ytalngdccjoafhaa.base
open Go.ChangeShapes Go.WideShapes Go.ChangeAt Go.RowKit
set_option linter.unusedVariables false
set_option linter.unusedSimpArgs false

theorem keptDrewY {w W : World} (h : Kept w W) : Kept w W.drew := ⟨h.os, h.tape, h.output, h.size, h.block⟩
theorem cells25 : (#[.int .i64 0, .int .i64 0, .int .i64 0, .int .i64 0, .int .i64 0, .int .i64 0, .int .i64 0, .int .i64 0, .int .i64 0, .int .i64 0, .int .i64 0, .int .i64 0, .int .i64 0, .int .i64 0, .int .i64 0, .int .i64 0, .int .i64 0, .int .i64 0, .int .i64 0, .int .i64 0, .int .i64 0, .int .i64 0, .int .i64 0, .int .i64 0, .slice none 0 0] : Array Value) = z25.toArray := rfl

set_option maxHeartbeats 1600000 in
set_option maxRecDepth 100000 in
theorem without_any (ns fs : List Int) (v : Value) (n b k m : Nat) (w : World) (h24 : ns.length = 24) (hn : n ≤ 1048576) (h : Rw w b v n fs) (hkm : k ≤ m) (hm : m ≤ n) :
    Calls Try.prog 44 #[rpV ns v, .int .i64 (k : Nat), .int .i64 (m : Nat)] w fun e w' => ∃ u : Value, e = .returned (rpV ns u) ∧ Rw w' w.heap.size u (n - (m - k)) (outF fs k m) ∧ Kept w w' := by
  have RY := (Ry.box (v := v) w 33 h24).alloc (.cells z25.toArray 33)
  have Z := (Ry.zero (w.alloc (.cells (rpC ns v).toArray 33)) 33).at (size1 _ _)
  have HB := Lib.hid (((kept_refl w).alloc (.cells (rpC ns v).toArray 33)).alloc (.cells z25.toArray 33))
  have HR := Lib.hid ((h.alloc (.cells (rpC ns v).toArray 33)).alloc (.cells z25.toArray 33))
  have hsz : ((w.alloc (.cells (rpC ns v).toArray 33)).alloc (.cells z25.toArray 33)).heap.size = w.heap.size + 2 := by simp
  have hv1 : v.oneCell' = true := by obtain ⟨a, cap, rfl⟩ := h.shape; rfl
  clear h
  unfold rpV
  go_enter Try.func44, Try.ntmps44
  go_upto_region 1 with fail
  try rw [cells25]
  generalize ((w.alloc (.cells (rpC ns v).toArray 33)).alloc (.cells z25.toArray 33)) = W at *
  go_wp2_with (refine guardY (isLdY 33) ?_ ?_; (· rfl); refine load_ry rfl 33 _ rfl w.heap.size rfl _ _ _ RY _ Try.underlying33 rfl ?_ ?_; (· kernel_rfl))
  refine (copied_any ns fs v n b _ h24 hn HR.out).mono ?_
  rintro e w1 ⟨g, rfl, q1, b1⟩
  have ow := World.ownsRow.lt q1 g rfl
  have hg0 : w.heap.size + 2 ≤ g := by omega
  have hg1 : g < w1.heap.size := ow.2
  have RC := Ry.box (v := .slice (some ⟨g, 0, none⟩) n n) w1 33 h24
  have Q := Lib.hid (q1.rw.alloc (.cells (rpC ns (.slice (some ⟨g, 0, none⟩) n n)).toArray 33))
  replace Z := (Z.below b1).alloc (.cells (rpC ns (.slice (some ⟨g, 0, none⟩) n n)).toArray 33)
  replace HB := Lib.hid ((HB.out.call b1).alloc (.cells (rpC ns (.slice (some ⟨g, 0, none⟩) n n)).toArray 33))
  have hlt := RC.lt
  clear q1 b1 RY HR ow
  go_upto_region 2 with (refine guardY (isStY 33) ?_ ?_; (· rfl); refine store_newry rfl 33 _ _ rfl w1 _ _ rfl _ rfl ns (.slice (some ⟨g, 0, none⟩) n n) rfl rfl rfl h24 rfl ?_ ?_; (· kernel_rfl))
  obtain ⟨c, hc⟩ : ∃ c, w1.heap.size = c := ⟨_, rfl⟩
  rw [hc] at RC hg1 hlt ⊢
  generalize w1.alloc (.cells (rpC ns (.slice (some ⟨g, 0, none⟩) n n)).toArray 33) = W1 at *
  clear hc
  have c24 := RC.pours
  go_wp2_with fail
  refine (deleteP g n n k m _ fs W1 Q.out (by omega) (by omega) hn (Nat.le_refl _) hkm hm).mono ?_
  rintro e w2 ⟨rfl, q2, g2⟩
  have hne1 : w.heap.size + 1 ≠ g := by omega
  have hne2 : c ≠ g := by omega
  replace RC := RC.grown g2 (fun e => hne2 (Option.some.inj e))
  replace Z := Z.grown g2 (fun e => hne1 (Option.some.inj e))
  replace HB : Hid (Kept w w2) := Lib.hid (HB.out.grown g2 HB.out.size (fun k hk => by have := Option.some.inj hk; omega))
  clear c24 g2 Q
  have c24 := RC.pours
  have f24 := RC.free 24
  obtain ⟨N, hN⟩ : ∃ N, n - (m - k) = N := ⟨_, rfl⟩
  rw [hN] at q2 ⊢
  have HN := Lib.hid hN
  have R1 := RC.setPours (.slice (some ⟨g, 0, none⟩) N n)
  have Z1 := Z.setOther (q := c) 24 (.slice (some ⟨g, 0, none⟩) N n) (by omega)
  have Q1 := Lib.hid (q2.puts c 24 [.slice (some ⟨g, 0, none⟩) N n] (fun _ e => hne2 (Option.some.inj (show some g = some c from e)).symm))
  have B1 := Lib.hid (HB.out.set (b := c) (by omega) 24 (.slice (some ⟨g, 0, none⟩) N n))
  clear q2 hN
  go_upto_region 3 with fail
  clear c24 f24 RC Z HB
  have Q2 : Hid (Rw (w2.setCell ⟨c, 24, none⟩ (.slice (some ⟨g, 0, none⟩) N n)) (w.heap.size + 2) (.slice (some ⟨g, 0, none⟩) N n) N (outF fs k m)) := Lib.hid (Rw.mono Q1.out (by omega))
  clear Q1
  generalize World.setCell w2 ⟨c, 24, none⟩ (.slice (some ⟨g, 0, none⟩) N n) = W3 at *
  have S1 := Lib.hid (Z1.putAll ns (.slice (some ⟨g, 0, none⟩) N n) h24)
  have S2 := Lib.hid (B1.out.puts (b := w.heap.size + 1) (by omega) 0 (rpC ns (.slice (some ⟨g, 0, none⟩) N n)))
  have S3 := Lib.hid (Q2.out.puts (w.heap.size + 1) 0 (rpC ns (.slice (some ⟨g, 0, none⟩) N n)) (fun _ e => hne1 (Option.some.inj (show some g = some (w.heap.size + 1) from e)).symm))
  go_wp2_with (first | (refine guardY (isLdY 33) ?_ ?_; (· rfl); refine load_ry rfl 33 _ rfl c rfl _ _ _ R1 _ Try.underlying33 rfl ?_ ?_; (· kernel_rfl)) | (refine guardY (isStY 33) ?_ ?_; (· rfl); refine store_ry rfl 33 _ _ rfl (w.heap.size + 1) rfl ns (.slice (some ⟨g, 0, none⟩) N n) rfl _ _ _ Z1 h24 rfl ?_ ?_; (· kernel_rfl)))
  exact bodyPost_ret (res_ry rfl _ _ (w.heap.size + 1) ns _ _ _ rfl S1.out Try.underlying33 rfl (by kernel_rfl)) rfl ⟨_, rfl, by rw [HN.out]; exact Rw.mono (b := w.heap.size + 2) S3.out (Nat.le_add_right _ _), S2.out⟩

set_option maxHeartbeats 1600000 in
set_option maxRecDepth 100000 in
theorem implIsReplay (ns fs : List Int) (v : Value) (n b : Nat) (w : World) (h24 : ns.length = 24) (hn : n ≤ 1048576) (h : Rw w b v n fs) :
    Calls Try.prog 13 #[rpV ns v] w fun e w' => e = .returned (.bool (rpOk ns fs n)) ∧ Kept w w' := by
  have RY := Ry.box (v := v) w 33 h24
  have HB := Lib.hid ((kept_refl w).alloc (.cells (rpC ns v).toArray 33))
  have HR := Lib.hid (h.alloc (.cells (rpC ns v).toArray 33))
  clear h
  unfold rpV
  go_enter Try.func13, Try.ntmps13
  go_wp2_with (refine guardY (isLdY 33) ?_ ?_; (· rfl); refine load_ry rfl 33 _ rfl w.heap.size rfl _ _ _ RY _ Try.underlying33 rfl ?_ ?_; (· kernel_rfl))
  refine (racks_any ns fs v n b _ h24 hn HR.out).mono ?_
  rintro e w1 ⟨u, rfl, q1, b1⟩
  have S1 := Lib.hid (HB.out.call b1)
  clear q1 b1 HB HR RY
  go_wp2_with fail
  go_ret
  exact ⟨rfl, S1.out⟩

theorem rr_yes {ns fs : List Int} {n : Nat} {k : Nat} (h : rpOk ns fs n = true) (hk : k ≤ n) : rrOk ns fs n (k : Int) = true ∧ rrA ns fs n (k : Int) = doR ns fs k := by
  have e : rrOk ns fs n (k : Int) = true := by unfold rrOk; rw [h, decide_eq_true (by omega)]; rfl
  refine ⟨e, ?_⟩
  unfold rrA
  rw [if_pos e, Int.toNat_natCast]
theorem rr_no {ns fs : List Int} {n : Nat} {k : Int} (h : rrOk ns fs n k = false) : rrA ns fs n k = z24 := by unfold rrA; rw [if_neg (by rw [h]; simp)]
theorem rr_off {ns fs : List Int} {n : Nat} (k : Int) (h : rpOk ns fs n = false) : rrOk ns fs n k = false ∧ rrA ns fs n k = z24 := by
  have e : rrOk ns fs n k = false := by unfold rrOk; rw [h]; rfl
  exact ⟨e, rr_no e⟩
theorem rr_out {ns fs : List Int} {n : Nat} {k : Int} (h : ¬ (0 ≤ k ∧ k ≤ n)) : rrOk ns fs n k = false ∧ rrA ns fs n k = z24 := by
  have e : rrOk ns fs n k = false := by unfold rrOk; rw [decide_eq_false h, Bool.and_false]
  exact ⟨e, rr_no e⟩

set_option maxHeartbeats 1600000 in
set_option maxRecDepth 100000 in
theorem implReplayRack (ns fs : List Int) (v : Value) (n b : Nat) (k : Int) (w : World) (h24 : ns.length = 24) (hn : n ≤ 1048576) (h : Rw w b v n fs) :
    Calls Try.prog 16 #[rpV ns v, .int .i64 k] w fun e w' => e = .returned (.tuple #[row (rrA ns fs n k), .bool (rrOk ns fs n k)]) ∧ Kept w w' := by
  have RY := (Ry.box (v := v) w 33 h24).alloc (.cells #[.int .i64 0, .int .i64 0, .int .i64 0, .int .i64 0, .int .i64 0, .int .i64 0, .int .i64 0, .int .i64 0, .int .i64 0, .int .i64 0, .int .i64 0, .int .i64 0, .int .i64 0, .int .i64 0, .int .i64 0, .int .i64 0, .int .i64 0, .int .i64 0, .int .i64 0, .int .i64 0, .int .i64 0, .int .i64 0, .int .i64 0, .int .i64 0] 31)
  have Z := (Has.zero24 (w.alloc (.cells (rpC ns v).toArray 33)) 31).at (size1 _ _)
  have HB := Lib.hid (((kept_refl w).alloc (.cells (rpC ns v).toArray 33)).alloc (.cells #[.int .i64 0, .int .i64 0, .int .i64 0, .int .i64 0, .int .i64 0, .int .i64 0, .int .i64 0, .int .i64 0, .int .i64 0, .int .i64 0, .int .i64 0, .int .i64 0, .int .i64 0, .int .i64 0, .int .i64 0, .int .i64 0, .int .i64 0, .int .i64 0, .int .i64 0, .int .i64 0, .int .i64 0, .int .i64 0, .int .i64 0, .int .i64 0] 31))
  have HR := Lib.hid ((h.alloc (.cells (rpC ns v).toArray 33)).alloc (.cells #[.int .i64 0, .int .i64 0, .int .i64 0, .int .i64 0, .int .i64 0, .int .i64 0, .int .i64 0, .int .i64 0, .int .i64 0, .int .i64 0, .int .i64 0, .int .i64 0, .int .i64 0, .int .i64 0, .int .i64 0, .int .i64 0, .int .i64 0, .int .i64 0, .int .i64 0, .int .i64 0, .int .i64 0, .int .i64 0, .int .i64 0, .int .i64 0] 31))
  clear h
  rw [row_ints]
  unfold rpV
  go_enter Try.func16, Try.ntmps16
  go_upto_region 1 with fail
  generalize ((w.alloc (.cells (rpC ns v).toArray 33)).alloc (.cells #[.int .i64 0, .int .i64 0, .int .i64 0, .int .i64 0, .int .i64 0, .int .i64 0, .int .i64 0, .int .i64 0, .int .i64 0, .int .i64 0, .int .i64 0, .int .i64 0, .int .i64 0, .int .i64 0, .int .i64 0, .int .i64 0, .int .i64 0, .int .i64 0, .int .i64 0, .int .i64 0, .int .i64 0, .int .i64 0, .int .i64 0, .int .i64 0] 31)) = W at *
  go_wp2_with (refine guardY (isLdY 33) ?_ ?_; (· rfl); refine load_ry rfl 33 _ rfl w.heap.size rfl _ _ _ RY _ Try.underlying33 rfl ?_ ?_; (· kernel_rfl))
  refine (racks_any ns fs v n b _ h24 hn HR.out).mono ?_
  rintro e w1 ⟨u, rfl, q1, b1⟩
  replace Z := Z.below b1
  replace HB := Lib.hid (HB.out.call b1)
  have HL := Lib.hid (doR_len h24 fs)
  clear b1 HR RY
  have zz : z24.length = 24 := rfl
  cases hok : rpOk ns fs n with
  | false =>
    have E := Lib.hid (rr_off k hok)
    have S1 := Lib.hid (Z.putAll z24 rfl)
    have S2 := Lib.hid (HB.out.puts (b := w.heap.size + 1) (by omega) 0 (ints z24))
    clear hok q1
    go_wp2_with (first | (refine guardY (isBdY 31) ?_ ?_; (· rfl); refine build_law rfl 31 rfl _ buildRack ?_) | (refine guardY (isStY 31) ?_ ?_; (· rfl); (refine store_at rfl 31 _ _ rfl _ _ rfl rfl ?_ 24 ?_ ?_ ?_ ?_; rotate_left; (· (repeat (first | (with_reducible assumption) | ((with_reducible refine Has.box _ _ ?_ ?_) <;> (first | assumption | decide)) | (with_reducible refine Has.alloc ?_ _) | ((with_reducible refine Has.putOther ?_ _ _ ?_); rotate_left; omega; skip) | ((with_reducible refine Has.below ?_ ?_); rotate_left; assumption)))); (· (first | assumption | rfl)); (· kernel_rfl))))
    exact bodyPost_ret (res_has1 rfl _ _ (w.heap.size + 1) z24 24 _ (.bool false) rfl rfl S1.out Try.underlying31 rfl (by kernel_rfl)) rfl ⟨by rw [E.out.1, E.out.2], S2.out⟩
  | true =>
    rw [rk_yes hok] at q1
    obtain ⟨ga, gc, rfl⟩ := q1.shape
    have hl := rks_len ns fs n
    rw [hl]
    have n60 := rp_le hok
    by_cases hk : 0 ≤ k ∧ k ≤ n
    · obtain ⟨j, rfl⟩ : ∃ j : Nat, k = (j : Int) := ⟨k.toNat, by omega⟩
      have hj : j ≤ n := by omega
      have E := Lib.hid (rr_yes hok hj)
      obtain ⟨gg, cc, he, hg0, hg1⟩ := q1.form (by rw [hl]; omega)
      injection he with e1 _ e3
      subst e1
      subst e3
      rw [hl] at q1
      have RG := Lib.hid (q1.range hl.symm j (by omega))
      rw [rks_get ns fs n j hj] at RG
      have hR := HL.out j
      obtain ⟨R, hRR⟩ : ∃ R, doR ns fs j = R := ⟨_, rfl⟩
      rw [hRR] at RG hR E
      have hi1 : (Try.prog.info? 31).map (·.size) = some (ints R).length := by rw [ints_len, hR]; kernel_rfl
      have S1 := Lib.hid (Z.putAll R hR)
      have S2 := Lib.hid (HB.out.puts (b := w.heap.size + 1) (by omega) 0 (ints R))
      have k1 : (j : Int) < (n : Int) + 1 := by omega
      have k2 : decide ((n : Int) + 1 ≤ (j : Int)) = false := by simp; omega
      have k3 : decide ((j : Int) < 0) = false := by simp
      have k4 : (0 : Int) ≤ (j : Int) := by omega
      have k5 : j < n + 1 := by omega
      have k6 : decide (n + 1 ≤ j) = false := by simp; omega
      have HI := Lib.hid hi1
      clear hok q1 hk hRR hl hi1
      go_wp2_with (first | (refine guardY (isLdY 31) ?_ ?_; (· rfl); refine wpList_load_mid rfl 31 _ rfl gg (j * 24) rfl (ints R) _ RG.out Try.underlying31 rfl HI.out ?_) | (refine guardY (isStY 31) ?_ ?_; (· rfl); refine store_at rfl 31 _ _ rfl _ R rfl rfl z24 24 Z hR ?_ ?_; (· kernel_rfl)))
      exact bodyPost_ret (res_has1 rfl _ _ (w.heap.size + 1) R 24 _ (.bool true) rfl rfl S1.out Try.underlying31 rfl (by kernel_rfl)) rfl ⟨by rw [E.out.1, E.out.2], S2.out⟩
    · have E := Lib.hid (rr_out (ns := ns) (fs := fs) hk)
      have S1 := Lib.hid (Z.putAll z24 rfl)
      have S2 := Lib.hid (HB.out.puts (b := w.heap.size + 1) (by omega) 0 (ints z24))
      by_cases h0 : k < 0
      · clear hok q1 hk hl
        go_wp2_with (first | (refine guardY (isBdY 31) ?_ ?_; (· rfl); refine build_law rfl 31 rfl _ buildRack ?_) | (refine guardY (isStY 31) ?_ ?_; (· rfl); (refine store_at rfl 31 _ _ rfl _ _ rfl rfl ?_ 24 ?_ ?_ ?_ ?_; rotate_left; (· (repeat (first | (with_reducible assumption) | ((with_reducible refine Has.box _ _ ?_ ?_) <;> (first | assumption | decide)) | (with_reducible refine Has.alloc ?_ _) | ((with_reducible refine Has.putOther ?_ _ _ ?_); rotate_left; omega; skip) | ((with_reducible refine Has.below ?_ ?_); rotate_left; assumption)))); (· (first | assumption | rfl)); (· kernel_rfl))))
        exact bodyPost_ret (res_has1 rfl _ _ (w.heap.size + 1) z24 24 _ (.bool false) rfl rfl S1.out Try.underlying31 rfl (by kernel_rfl)) rfl ⟨by rw [E.out.1, E.out.2], S2.out⟩
      · have k1 : (n : Int) + 1 ≤ k := by omega
        have k0 : decide (k < 0) = false := by simpa using h0
        clear hok q1 hk hl h0
        go_wp2_with (first | (refine guardY (isBdY 31) ?_ ?_; (· rfl); refine build_law rfl 31 rfl _ buildRack ?_) | (refine guardY (isStY 31) ?_ ?_; (· rfl); (refine store_at rfl 31 _ _ rfl _ _ rfl rfl ?_ 24 ?_ ?_ ?_ ?_; rotate_left; (· (repeat (first | (with_reducible assumption) | ((with_reducible refine Has.box _ _ ?_ ?_) <;> (first | assumption | decide)) | (with_reducible refine Has.alloc ?_ _) | ((with_reducible refine Has.putOther ?_ _ _ ?_); rotate_left; omega; skip) | ((with_reducible refine Has.below ?_ ?_); rotate_left; assumption)))); (· (first | assumption | rfl)); (· kernel_rfl))))
        exact bodyPost_ret (res_has1 rfl _ _ (w.heap.size + 1) z24 24 _ (.bool false) rfl rfl S1.out Try.underlying31 rfl (by kernel_rfl)) rfl ⟨by rw [E.out.1, E.out.2], S2.out⟩

set_option maxHeartbeats 1600000 in
set_option maxRecDepth 100000 in
theorem last_any (ns fs : List Int) (v : Value) (n b : Nat) (w : World) (h24 : ns.length = 24) (hn : n ≤ 1048576) (h : Rw w b v n fs) :
    Calls Try.prog 46 #[rpV ns v] w fun e w' => e = .returned (.tuple #[row (rrA ns fs n (n : Nat)), .bool (rpOk ns fs n)]) ∧ Kept w w' := by
  obtain ⟨a, cap, rfl⟩ := h.shape
  have RY := (Ry.box (v := .slice a n cap) w 33 h24).alloc (.cells #[.int .i64 0, .int .i64 0, .int .i64 0, .int .i64 0, .int .i64 0, .int .i64 0, .int .i64 0, .int .i64 0, .int .i64 0, .int .i64 0, .int .i64 0, .int .i64 0, .int .i64 0, .int .i64 0, .int .i64 0, .int .i64 0, .int .i64 0, .int .i64 0, .int .i64 0, .int .i64 0, .int .i64 0, .int .i64 0, .int .i64 0, .int .i64 0] 31)
  have Z := (Has.zero24 (w.alloc (.cells (rpC ns (.slice a n cap)).toArray 33)) 31).at (size1 _ _)
  have HB := Lib.hid (((kept_refl w).alloc (.cells (rpC ns (.slice a n cap)).toArray 33)).alloc (.cells #[.int .i64 0, .int .i64 0, .int .i64 0, .int .i64 0, .int .i64 0, .int .i64 0, .int .i64 0, .int .i64 0, .int .i64 0, .int .i64 0, .int .i64 0, .int .i64 0, .int .i64 0, .int .i64 0, .int .i64 0, .int .i64 0, .int .i64 0, .int .i64 0, .int .i64 0, .int .i64 0, .int .i64 0, .int .i64 0, .int .i64 0, .int .i64 0] 31))
  have HR := Lib.hid ((h.alloc (.cells (rpC ns (.slice a n cap)).toArray 33)).alloc (.cells #[.int .i64 0, .int .i64 0, .int .i64 0, .int .i64 0, .int .i64 0, .int .i64 0, .int .i64 0, .int .i64 0, .int .i64 0, .int .i64 0, .int .i64 0, .int .i64 0, .int .i64 0, .int .i64 0, .int .i64 0, .int .i64 0, .int .i64 0, .int .i64 0, .int .i64 0, .int .i64 0, .int .i64 0, .int .i64 0, .int .i64 0, .int .i64 0] 31))
  have EK : Hid (rrOk ns fs n (n : Nat) = rpOk ns fs n) := Lib.hid (by unfold rrOk; rw [decide_eq_true (by omega), Bool.and_true])
  have hR := rrA_len h24 fs n (n : Nat)
  have KR := Lib.hid (fun W q => implReplayRack ns fs (.slice a n cap) n b (n : Nat) W h24 hn q)
  clear h
  rw [EK.out] at KR
  generalize rrA ns fs n (n : Nat) = R at *
  rw [row_ints] at *
  unfold rpV at *
  go_enter Try.func46, Try.ntmps46
  go_upto_region 1 with fail
  generalize ((w.alloc (.cells (rpC ns (.slice a n cap)).toArray 33)).alloc (.cells #[.int .i64 0, .int .i64 0, .int .i64 0, .int .i64 0, .int .i64 0, .int .i64 0, .int .i64 0, .int .i64 0, .int .i64 0, .int .i64 0, .int .i64 0, .int .i64 0, .int .i64 0, .int .i64 0, .int .i64 0, .int .i64 0, .int .i64 0, .int .i64 0, .int .i64 0, .int .i64 0, .int .i64 0, .int .i64 0, .int .i64 0, .int .i64 0] 31)) = W at *
  have c24 := RY.pours
  go_wp2_with (refine guardY (isLdY 33) ?_ ?_; (· rfl); refine load_ry rfl 33 _ rfl w.heap.size rfl _ _ _ RY _ Try.underlying33 rfl ?_ ?_; (· kernel_rfl))
  refine (KR.out _ HR.out).mono ?_
  rintro e w1 ⟨rfl, b1⟩
  replace Z := Z.below b1
  replace HB := Lib.hid (HB.out.call b1)
  have S1 := Lib.hid (Z.putAll R hR)
  have S2 := Lib.hid (HB.out.puts (b := w.heap.size + 1) (by omega) 0 (ints R))
  clear b1 HR RY c24
  go_wp2_with (refine guardY (isStY 31) ?_ ?_; (· rfl); (refine store_at rfl 31 _ _ rfl _ _ rfl rfl ?_ 24 ?_ ?_ ?_ ?_; rotate_left; (· (repeat (first | (with_reducible assumption) | ((with_reducible refine Has.box _ _ ?_ ?_) <;> (first | assumption | decide)) | (with_reducible refine Has.alloc ?_ _) | ((with_reducible refine Has.putOther ?_ _ _ ?_); rotate_left; omega; skip) | ((with_reducible refine Has.below ?_ ?_); rotate_left; assumption)))); (· (first | assumption | rfl)); (· kernel_rfl)))
  exact bodyPost_ret (res_has1 rfl _ _ (w.heap.size + 1) R 24 _ (.bool (rpOk ns fs n)) rfl rfl S1.out Try.underlying31 rfl (by kernel_rfl)) rfl ⟨rfl, S2.out⟩
end Go.Proofs.Ytalngdccjoafhaa.base
end

section
namespace Go.Proofs.Ytalngdccjoafhaa.base
open Go.ChangeShapes Go.WideShapes Go.ChangeAt Go.RowKit
set_option linter.unusedVariables false
set_option linter.unusedSimpArgs false

/-- A replay as an answer. -/
def RepPost (OK : Bool) (R : List Int) (N : Nat) (F : List Int) (w : World) (e : Ending) (w' : World) : Prop := ∃ u : Value, e = .returned (.tuple #[rpV (orR OK R) u, .bool OK]) ∧ Rw w' w.heap.size u (orN OK N) (orF OK F) ∧ Kept w w'
theorem Rw.nil (w : World) (b : Nat) : Rw w b (.slice none 0 0) 0 [] := ⟨rfl, .inl ⟨rfl, none, 0, rfl⟩⟩
theorem undo_eq {fs : List Int} {n j : Nat} (hl : fs.length = n * 2) (hj : j ≤ n) : outF fs (n - j) n = fs.take ((n - j) * 2) := by
  unfold outF; rw [List.drop_of_length_le (by omega), List.append_nil]
theorem upN_le (ns fs : List Int) (n : Nat) (k : Int) : orN (upOk ns fs n k) (n - k.toNat) ≤ 60 := by
  cases h : upOk ns fs n k with
  | false => exact Nat.zero_le _
  | true =>
    unfold upOk at h
    have := rp_le (Bool.and_eq_true_iff.1 h).1
    unfold orN
    rw [if_pos rfl]; omega
theorem ds_yes {ns fs : List Int} {n : Nat} (h : rpOk ns fs n = true) : dsA ns fs n = sortedA (doR ns fs n) := by unfold dsA; rw [h]; rfl
theorem ds_no {ns fs : List Int} {n : Nat} (h : rpOk ns fs n = false) : dsA ns fs n = false := by unfold dsA; rw [h]; rfl
theorem up_yes {ns fs : List Int} {n j : Nat} (h : rpOk ns fs n = true) (hj : j ≤ n) : upOk ns fs n (j : Int) = true := by unfold upOk; rw [h, decide_eq_true (by omega)]; rfl
theorem up_no {ns fs : List Int} {n : Nat} (k : Int) (h : rpOk ns fs n = false) : upOk ns fs n k = false := by unfold upOk; rw [h]; rfl
theorem up_out {ns fs : List Int} {n : Nat} {k : Int} (h : ¬ (0 ≤ k ∧ k ≤ n)) : upOk ns fs n k = false := by unfold upOk; rw [decide_eq_false h, Bool.and_false]

set_option maxHeartbeats 1600000 in
set_option maxRecDepth 100000 in
theorem specIsReplay (ns fs : List Int) (v : Value) (n b : Nat) (w : World) (h24 : ns.length = 24) (hn : n ≤ 1048576) (h : Rw w b v n fs) :
    Calls Try.prog 11 #[rpV ns v] w fun e w' => e = .returned (.bool (rpOk ns fs n)) ∧ Kept w w' := by
  have RY := Ry.box (v := v) w 33 h24
  have HB := Lib.hid ((kept_refl w).alloc (.cells (rpC ns v).toArray 33))
  have HR := Lib.hid (h.alloc (.cells (rpC ns v).toArray 33))
  clear h
  unfold rpV
  go_enter Try.func11, Try.ntmps11
  go_wp2_with (refine guardY (isLdY 33) ?_ ?_; (· rfl); refine load_ry rfl 33 _ rfl w.heap.size rfl _ _ _ RY _ Try.underlying33 rfl ?_ ?_; (· kernel_rfl))
  refine (l11Racks_any ns fs v n b _ h24 hn HR.out).mono ?_
  rintro e w1 ⟨u, rfl, q1, b1⟩
  have S1 := Lib.hid (HB.out.call b1)
  clear q1 b1 HB HR RY
  go_wp2_with fail
  go_ret
  exact ⟨rfl, S1.out⟩

set_option maxHeartbeats 1600000 in
set_option maxRecDepth 100000 in
theorem specReplayRack (ns fs : List Int) (v : Value) (n b : Nat) (k : Int) (w : World) (h24 : ns.length = 24) (hn : n ≤ 1048576) (h : Rw w b v n fs) :
    Calls Try.prog 15 #[rpV ns v, .int .i64 k] w fun e w' => e = .returned (.tuple #[row (rrA ns fs n k), .bool (rrOk ns fs n k)]) ∧ Kept w w' := by
  have RY := (Ry.box (v := v) w 33 h24).alloc (.cells #[.int .i64 0, .int .i64 0, .int .i64 0, .int .i64 0, .int .i64 0, .int .i64 0, .int .i64 0, .int .i64 0, .int .i64 0, .int .i64 0, .int .i64 0, .int .i64 0, .int .i64 0, .int .i64 0, .int .i64 0, .int .i64 0, .int .i64 0, .int .i64 0, .int .i64 0, .int .i64 0, .int .i64 0, .int .i64 0, .int .i64 0, .int .i64 0] 31)
  have Z := (Has.zero24 (w.alloc (.cells (rpC ns v).toArray 33)) 31).at (size1 _ _)
  have HB := Lib.hid (((kept_refl w).alloc (.cells (rpC ns v).toArray 33)).alloc (.cells #[.int .i64 0, .int .i64 0, .int .i64 0, .int .i64 0, .int .i64 0, .int .i64 0, .int .i64 0, .int .i64 0, .int .i64 0, .int .i64 0, .int .i64 0, .int .i64 0, .int .i64 0, .int .i64 0, .int .i64 0, .int .i64 0, .int .i64 0, .int .i64 0, .int .i64 0, .int .i64 0, .int .i64 0, .int .i64 0, .int .i64 0, .int .i64 0] 31))
  have HR := Lib.hid ((h.alloc (.cells (rpC ns v).toArray 33)).alloc (.cells #[.int .i64 0, .int .i64 0, .int .i64 0, .int .i64 0, .int .i64 0, .int .i64 0, .int .i64 0, .int .i64 0, .int .i64 0, .int .i64 0, .int .i64 0, .int .i64 0, .int .i64 0, .int .i64 0, .int .i64 0, .int .i64 0, .int .i64 0, .int .i64 0, .int .i64 0, .int .i64 0, .int .i64 0, .int .i64 0, .int .i64 0, .int .i64 0] 31))
  clear h
  rw [row_ints]
  unfold rpV
  go_enter Try.func15, Try.ntmps15
  go_upto_region 1 with fail
  generalize ((w.alloc (.cells (rpC ns v).toArray 33)).alloc (.cells #[.int .i64 0, .int .i64 0, .int .i64 0, .int .i64 0, .int .i64 0, .int .i64 0, .int .i64 0, .int .i64 0, .int .i64 0, .int .i64 0, .int .i64 0, .int .i64 0, .int .i64 0, .int .i64 0, .int .i64 0, .int .i64 0, .int .i64 0, .int .i64 0, .int .i64 0, .int .i64 0, .int .i64 0, .int .i64 0, .int .i64 0, .int .i64 0] 31)) = W at *
  go_wp2_with (refine guardY (isLdY 33) ?_ ?_; (· rfl); refine load_ry rfl 33 _ rfl w.heap.size rfl _ _ _ RY _ Try.underlying33 rfl ?_ ?_; (· kernel_rfl))
  refine (l11Racks_any ns fs v n b _ h24 hn HR.out).mono ?_
  rintro e w1 ⟨u, rfl, q1, b1⟩
  replace Z := Z.below b1
  replace HB := Lib.hid (HB.out.call b1)
  have HL := Lib.hid (doR_len h24 fs)
  clear b1 HR RY
  have zz : z24.length = 24 := rfl
  cases hok : rpOk ns fs n with
  | false =>
    have E := Lib.hid (rr_off k hok)
    have S1 := Lib.hid (Z.putAll z24 rfl)
    have S2 := Lib.hid (HB.out.puts (b := w.heap.size + 1) (by omega) 0 (ints z24))
    clear hok q1
    go_wp2_with (first | (refine guardY (isBdY 31) ?_ ?_; (· rfl); refine build_law rfl 31 rfl _ buildRack ?_) | (refine guardY (isStY 31) ?_ ?_; (· rfl); (refine store_at rfl 31 _ _ rfl _ _ rfl rfl ?_ 24 ?_ ?_ ?_ ?_; rotate_left; (· (repeat (first | (with_reducible assumption) | ((with_reducible refine Has.box _ _ ?_ ?_) <;> (first | assumption | decide)) | (with_reducible refine Has.alloc ?_ _) | ((with_reducible refine Has.putOther ?_ _ _ ?_); rotate_left; omega; skip) | ((with_reducible refine Has.below ?_ ?_); rotate_left; assumption)))); (· (first | assumption | rfl)); (· kernel_rfl))))
    exact bodyPost_ret (res_has1 rfl _ _ (w.heap.size + 1) z24 24 _ (.bool false) rfl rfl S1.out Try.underlying31 rfl (by kernel_rfl)) rfl ⟨by rw [E.out.1, E.out.2], S2.out⟩
  | true =>
    rw [rk_yes hok] at q1
    obtain ⟨ga, gc, rfl⟩ := q1.shape
    have hl := rks_len ns fs n
    rw [hl]
    have n60 := rp_le hok
    have wr1 : IntKind.i64.wrap ((n : Int) + 1 - 1) = (n : Int) := by rw [IntWalk.i64_in _ (by omega)]; omega
    have wr2 : (n : Int) + 1 - 1 = (n : Int) := by omega
    by_cases hk : 0 ≤ k ∧ k ≤ n
    · obtain ⟨j, rfl⟩ : ∃ j : Nat, k = (j : Int) := ⟨k.toNat, by omega⟩
      have hj : j ≤ n := by omega
      have E := Lib.hid (rr_yes hok hj)
      obtain ⟨gg, cc, he, hg0, hg1⟩ := q1.form (by rw [hl]; omega)
      injection he with e1 _ e3
      subst e1
      subst e3
      rw [hl] at q1
      have RG := Lib.hid (q1.range hl.symm j (by omega))
      rw [rks_get ns fs n j hj] at RG
      have hR := HL.out j
      obtain ⟨R, hRR⟩ : ∃ R, doR ns fs j = R := ⟨_, rfl⟩
      rw [hRR] at RG hR E
      have hi1 : (Try.prog.info? 31).map (·.size) = some (ints R).length := by rw [ints_len, hR]; kernel_rfl
      have S1 := Lib.hid (Z.putAll R hR)
      have S2 := Lib.hid (HB.out.puts (b := w.heap.size + 1) (by omega) 0 (ints R))
      have k1 : (j : Int) < (n : Int) + 1 := by omega
      have k4 : (0 : Int) ≤ (j : Int) := by omega
      have HI := Lib.hid hi1
      have KD : Hid (decide ((0 : Int) ≤ (j : Int) ∧ (j : Int) ≤ (n : Int)) = true) := Lib.hid (decide_eq_true hk)
      clear hok q1 hk hRR hl hi1
      go_wp2_with fail
      refine (l1In_any _ _ _ _).mono ?_
      rintro e w' ⟨rfl, rfl⟩
      rw [KD.out]
      go_wp2_with (first | (refine guardY (isLdY 31) ?_ ?_; (· rfl); refine wpList_load_mid rfl 31 _ rfl gg (j * 24) rfl (ints R) _ RG.out Try.underlying31 rfl HI.out ?_) | (refine guardY (isStY 31) ?_ ?_; (· rfl); refine store_at rfl 31 _ _ rfl _ R rfl rfl z24 24 Z hR ?_ ?_; (· kernel_rfl)))
      exact bodyPost_ret (res_has1 rfl _ _ (w.heap.size + 1) R 24 _ (.bool true) rfl rfl S1.out Try.underlying31 rfl (by kernel_rfl)) rfl ⟨by rw [E.out.1, E.out.2], S2.out⟩
    · have E := Lib.hid (rr_out (ns := ns) (fs := fs) hk)
      have S1 := Lib.hid (Z.putAll z24 rfl)
      have S2 := Lib.hid (HB.out.puts (b := w.heap.size + 1) (by omega) 0 (ints z24))
      have KD : Hid (decide ((0 : Int) ≤ k ∧ k ≤ (n : Int)) = false) := Lib.hid (decide_eq_false hk)
      clear hok q1 hk hl
      go_wp2_with fail
      refine (l1In_any _ _ _ _).mono ?_
      rintro e w' ⟨rfl, rfl⟩
      rw [KD.out]
      go_wp2_with (first | (refine guardY (isBdY 31) ?_ ?_; (· rfl); refine build_law rfl 31 rfl _ buildRack ?_) | (refine guardY (isStY 31) ?_ ?_; (· rfl); (refine store_at rfl 31 _ _ rfl _ _ rfl rfl ?_ 24 ?_ ?_ ?_ ?_; rotate_left; (· (repeat (first | (with_reducible assumption) | ((with_reducible refine Has.box _ _ ?_ ?_) <;> (first | assumption | decide)) | (with_reducible refine Has.alloc ?_ _) | ((with_reducible refine Has.putOther ?_ _ _ ?_); rotate_left; omega; skip) | ((with_reducible refine Has.below ?_ ?_); rotate_left; assumption)))); (· (first | assumption | rfl)); (· kernel_rfl))))
      exact bodyPost_ret (res_has1 rfl _ _ (w.heap.size + 1) z24 24 _ (.bool false) rfl rfl S1.out Try.underlying31 rfl (by kernel_rfl)) rfl ⟨by rw [E.out.1, E.out.2], S2.out⟩

set_option maxHeartbeats 1600000 in
set_option maxRecDepth 100000 in
theorem specDoesSolve (ns fs : List Int) (v : Value) (n b : Nat) (w : World) (h24 : ns.length = 24) (hn : n ≤ 1048576) (h : Rw w b v n fs) :
    Calls Try.prog 25 #[rpV ns v] w fun e w' => e = .returned (.tuple #[.bool (dsA ns fs n), .bool (rpOk ns fs n)]) ∧ Kept w w' := by
  have RY := Ry.box (v := v) w 33 h24
  have HB := Lib.hid ((kept_refl w).alloc (.cells (rpC ns v).toArray 33))
  have HR := Lib.hid (h.alloc (.cells (rpC ns v).toArray 33))
  clear h
  unfold rpV
  go_enter Try.func25, Try.ntmps25
  go_wp2_with (refine guardY (isLdY 33) ?_ ?_; (· rfl); refine load_ry rfl 33 _ rfl w.heap.size rfl _ _ _ RY _ Try.underlying33 rfl ?_ ?_; (· kernel_rfl))
  refine (l11Racks_any ns fs v n b _ h24 hn HR.out).mono ?_
  rintro e w1 ⟨u, rfl, q1, b1⟩
  replace HB := Lib.hid (HB.out.call b1)
  have HL := Lib.hid (doR_len h24 fs)
  clear b1 HR RY
  cases hok : rpOk ns fs n with
  | false =>
    have E := Lib.hid (ds_no hok)
    have OKH := Lib.hid hok
    clear hok q1
    go_wp2_with fail
    go_ret2
    exact ⟨by rw [E.out, OKH.out]; rfl, HB.out⟩
  | true =>
    have E := Lib.hid (ds_yes hok)
    have OKH := Lib.hid hok
    have VV := Lib.hid (do_valid h24 (rp_do hok))
    rw [rk_yes hok] at q1
    obtain ⟨ga, gc, rfl⟩ := q1.shape
    have hl := rks_len ns fs n
    rw [hl]
    have n60 := rp_le hok
    have wr1 : IntKind.i64.wrap ((n : Int) + 1 - 1) = (n : Int) := by rw [IntWalk.i64_in _ (by omega)]; omega
    have wr2 : (n : Int) + 1 - 1 = (n : Int) := by omega
    obtain ⟨gg, cc, he, hg0, hg1⟩ := q1.form (by rw [hl]; omega)
    injection he with e1 _ e3
    subst e1
    subst e3
    rw [hl] at q1
    have RG := Lib.hid (q1.range hl.symm n (by omega))
    rw [rks_get ns fs n n (Nat.le_refl _)] at RG
    have hR := HL.out n
    obtain ⟨R, hRR⟩ : ∃ R, doR ns fs n = R := ⟨_, rfl⟩
    rw [hRR] at RG hR E VV
    have hi1 : (Try.prog.info? 31).map (·.size) = some (ints R).length := by rw [ints_len, hR]; kernel_rfl
    have k1 : (n : Int) < (n : Int) + 1 := by omega
    have k4 : (0 : Int) ≤ (n : Int) := by omega
    have HI := Lib.hid hi1
    clear hok q1 hRR hl hi1
    go_wp2_with (refine guardY (isLdY 31) ?_ ?_; (· rfl); refine wpList_load_mid rfl 31 _ rfl gg (n * 24) rfl (ints R) _ RG.out Try.underlying31 rfl HI.out ?_)
    refine (l2Sorted_any R _ hR VV.out).mono ?_
    rintro e w2 ⟨rfl, b2⟩
    have S1 := Lib.hid (HB.out.call b2)
    clear b2 HB
    go_wp2_with fail
    go_ret2
    exact ⟨by rw [E.out, OKH.out]; rfl, S1.out⟩

set_option maxHeartbeats 1600000 in
set_option maxRecDepth 100000 in
theorem specUndo (ns fs : List Int) (v : Value) (n b : Nat) (k : Int) (w : World) (h24 : ns.length = 24) (hn : n ≤ 1048576) (h : Rw w b v n fs) :
    Calls Try.prog 23 #[rpV ns v, .int .i64 k] w (RepPost (upOk ns fs n k) ns (n - k.toNat) (fs.take ((n - k.toNat) * 2)) w) := by
  obtain ⟨a, cap, rfl⟩ := h.shape
  have RY := (Ry.box (v := .slice a n cap) w 33 h24).alloc (.cells z25.toArray 33)
  have Z := (Ry.zero (w.alloc (.cells (rpC ns (.slice a n cap)).toArray 33)) 33).at (size1 _ _)
  have HB := Lib.hid (((kept_refl w).alloc (.cells (rpC ns (.slice a n cap)).toArray 33)).alloc (.cells z25.toArray 33))
  have HR := Lib.hid ((h.alloc (.cells (rpC ns (.slice a n cap)).toArray 33)).alloc (.cells z25.toArray 33))
  have hsz : ((w.alloc (.cells (rpC ns (.slice a n cap)).toArray 33)).alloc (.cells z25.toArray 33)).heap.size = w.heap.size + 2 := by simp
  clear h
  unfold rpV
  go_enter Try.func23, Try.ntmps23
  go_upto_region 1 with fail
  try rw [cells25C]
  generalize ((w.alloc (.cells (rpC ns (.slice a n cap)).toArray 33)).alloc (.cells z25.toArray 33)) = W at *
  have hW := hsz
  clear hsz
  go_wp2_with (refine guardY (isLdY 33) ?_ ?_; (· rfl); refine load_ry rfl 33 _ rfl w.heap.size rfl _ _ _ RY _ Try.underlying33 rfl ?_ ?_; (· kernel_rfl))
  refine (specIsReplay ns fs (.slice a n cap) n b _ h24 hn HR.out).mono ?_
  rintro e w1 ⟨rfl, b1⟩
  have hws : w.heap.size + 2 ≤ w1.heap.size := by have := b1.size; omega
  replace RY := RY.below b1
  replace Z := Z.below b1
  replace HB := Lib.hid (HB.out.call b1)
  replace HR := Lib.hid (HR.out.below b1)
  clear b1 hW
  have c24 := RY.pours
  cases hok : rpOk ns fs n with
  | false =>
    have E := Lib.hid (up_no k hok)
    have S1 := Lib.hid (Z.putAll z24 (.slice none 0 0) rfl)
    have S2 := Lib.hid (HB.out.puts (b := w.heap.size + 1) (by omega) 0 (rpC z24 (.slice none 0 0)))
    clear hok c24
    go_wp2_with (first | (refine guardY (isBdY 33) ?_ ?_; (· rfl); refine build_law rfl 33 rfl _ buildRpZ ?_) | (refine guardY (isStY 33) ?_ ?_; (· rfl); refine store_ry rfl 33 _ _ rfl (w.heap.size + 1) rfl z24 (.slice none 0 0) rfl _ _ _ Z rfl rfl ?_ ?_; (· kernel_rfl)))
    exact bodyPost_ret (res_ry1 rfl _ _ (w.heap.size + 1) z24 _ _ _ (.bool false) rfl rfl S1.out Try.underlying33 rfl (by kernel_rfl)) rfl ⟨.slice none 0 0, by rw [E.out]; rfl, by rw [E.out]; exact Rw.nil _ _, S2.out⟩
  | true =>
    have n60 := rp_le hok
    by_cases hk : 0 ≤ k ∧ k ≤ n
    · obtain ⟨j, rfl⟩ : ∃ j : Nat, k = (j : Int) := ⟨k.toNat, by omega⟩
      have hj : j ≤ n := by omega
      have E := Lib.hid (up_yes hok hj)
      have KD : Hid (decide ((0 : Int) ≤ (j : Int) ∧ (j : Int) ≤ (n : Int)) = true) := Lib.hid (decide_eq_true hk)
      have wr1 : IntKind.i64.wrap ((n : Int) - (j : Int)) = ((n - j : Nat) : Int) := by rw [IntWalk.i64_in _ (by omega)]; omega
      clear hok hk
      go_wp2_with fail
      refine (l1In_any _ _ _ _).mono ?_
      rintro e w' ⟨rfl, rfl⟩
      rw [KD.out]
      go_wp2_with (refine guardY (isLdY 33) ?_ ?_; (· rfl); refine load_ry rfl 33 _ rfl w.heap.size rfl _ _ _ RY _ Try.underlying33 rfl ?_ ?_; (· kernel_rfl))
      refine (l11Cut_any ns fs (.slice a n cap) n b (n - j) _ h24 hn HR.out (by omega)).mono ?_
      rintro e w2 ⟨u, rfl, q2, b2⟩
      have ow := Lib.hid (fun z hz => (World.ownsRow.lt q2 z hz).1)
      replace Z := Z.below b2
      replace HB := Lib.hid (HB.out.call b2)
      obtain ⟨ua, uc, rfl⟩ := q2.rw.shape
      have Q := Lib.hid (q2.rw.mono (b' := w.heap.size) (by omega))
      have S1 := Lib.hid (Z.putAll ns (.slice ua (n - j) uc) h24)
      have S2 := Lib.hid (HB.out.puts (b := w.heap.size + 1) (by omega) 0 (rpC ns (.slice ua (n - j) uc)))
      have S3 := Lib.hid (Q.out.puts (w.heap.size + 1) 0 (rpC ns (.slice ua (n - j) uc)) (fun _ e => by have := ow.out _ e; omega))
      clear q2 b2 c24 RY HR
      go_wp2_with (refine guardY (isStY 33) ?_ ?_; (· rfl); refine store_ry rfl 33 _ _ rfl (w.heap.size + 1) rfl ns (.slice ua (n - j) uc) rfl _ _ _ Z h24 rfl ?_ ?_; (· kernel_rfl))
      exact bodyPost_ret (res_ry1 rfl _ _ (w.heap.size + 1) ns _ _ _ (.bool true) rfl rfl S1.out Try.underlying33 rfl (by kernel_rfl)) rfl ⟨_, by rw [E.out]; rfl, by rw [E.out]; exact S3.out, S2.out⟩
    · have E := Lib.hid (up_out (ns := ns) (fs := fs) hk)
      have S1 := Lib.hid (Z.putAll z24 (.slice none 0 0) rfl)
      have S2 := Lib.hid (HB.out.puts (b := w.heap.size + 1) (by omega) 0 (rpC z24 (.slice none 0 0)))
      have KD : Hid (decide ((0 : Int) ≤ k ∧ k ≤ (n : Int)) = false) := Lib.hid (decide_eq_false hk)
      clear hok hk
      go_wp2_with fail
      refine (l1In_any _ _ _ _).mono ?_
      rintro e w' ⟨rfl, rfl⟩
      rw [KD.out]
      clear c24
      go_wp2_with (first | (refine guardY (isBdY 33) ?_ ?_; (· rfl); refine build_law rfl 33 rfl _ buildRpZ ?_) | (refine guardY (isStY 33) ?_ ?_; (· rfl); refine store_ry rfl 33 _ _ rfl (w.heap.size + 1) rfl z24 (.slice none 0 0) rfl _ _ _ Z rfl rfl ?_ ?_; (· kernel_rfl)))
      exact bodyPost_ret (res_ry1 rfl _ _ (w.heap.size + 1) z24 _ _ _ (.bool false) rfl rfl S1.out Try.underlying33 rfl (by kernel_rfl)) rfl ⟨.slice none 0 0, by rw [E.out]; rfl, by rw [E.out]; exact Rw.nil _ _, S2.out⟩
end Go.Proofs.Ytalngdccjoafhaa.base
end

section
namespace Go.Proofs.Ytalngdccjoafhaa.base
open Go.ChangeShapes Go.WideShapes Go.ChangeAt Go.RowKit
set_option linter.unusedVariables false
set_option linter.unusedSimpArgs false

set_option maxHeartbeats 1600000 in
set_option maxRecDepth 100000 in
theorem implDoesSolve (ns fs : List Int) (v : Value) (n b : Nat) (w : World) (h24 : ns.length = 24) (hn : n ≤ 1048576) (h : Rw w b v n fs) :
    Calls Try.prog 26 #[rpV ns v] w fun e w' => e = .returned (.tuple #[.bool (dsA ns fs n), .bool (rpOk ns fs n)]) ∧ Kept w w' := by
  have RY := Ry.box (v := v) w 33 h24
  have HB := Lib.hid ((kept_refl w).alloc (.cells (rpC ns v).toArray 33))
  have HR := Lib.hid (h.alloc (.cells (rpC ns v).toArray 33))
  have hR := rrA_len h24 fs n (n : Nat)
  clear h
  unfold rpV
  go_enter Try.func26, Try.ntmps26
  go_wp2_with (refine guardY (isLdY 33) ?_ ?_; (· rfl); refine load_ry rfl 33 _ rfl w.heap.size rfl _ _ _ RY _ Try.underlying33 rfl ?_ ?_; (· kernel_rfl))
  refine (last_any ns fs v n b _ h24 hn HR.out).mono ?_
  rintro e w1 ⟨rfl, b1⟩
  rw [row_ints]
  have ER : Hid (rpOk ns fs n = true → rrA ns fs n (n : Nat) = doR ns fs n) := Lib.hid (fun h => (rr_yes h (Nat.le_refl n)).2)
  have A1 := Has.box w1 31 hR (by omega)
  replace HB := Lib.hid ((HB.out.call b1).alloc (.cells (ints (rrA ns fs n (n : Nat))).toArray 31))
  clear b1 HR RY
  cases hok : rpOk ns fs n with
  | false =>
    have E := Lib.hid (ds_no hok)
    have OKH := Lib.hid hok
    clear hok ER
    generalize rrA ns fs n (n : Nat) = R at *
    go_wp2_with (refine guardY (isStY 31) ?_ ?_; (· rfl); (refine store_new rfl 31 _ _ rfl _ _ _ rfl _ rfl _ rfl rfl ?_ ?_ ?_; (· (first | assumption | rfl)); (· kernel_rfl)))
    go_ret2
    exact ⟨by rw [E.out, OKH.out]; rfl, HB.out⟩
  | true =>
    have E := Lib.hid (ds_yes hok)
    have OKH := Lib.hid hok
    have VV := Lib.hid (do_valid h24 (rp_do hok))
    have e1 := ER.out hok
    obtain ⟨R, hRR⟩ : ∃ R, doR ns fs n = R := ⟨_, rfl⟩
    rw [hRR] at E VV e1
    rw [e1] at hR A1 HB ⊢
    clear hok ER hRR e1
    go_wp2_with (first | (refine guardY (isStY 31) ?_ ?_; (· rfl); (refine store_new rfl 31 _ _ rfl _ _ _ rfl _ rfl _ rfl rfl ?_ ?_ ?_; (· (first | assumption | rfl)); (· kernel_rfl))) | (refine guardY (isLdY 31) ?_ ?_; (· rfl); (refine load_has rfl 31 _ rfl _ rfl ?_ 24 ?_ _ Try.underlying31 rfl ?_ ?_; rotate_left; (· (repeat (first | (with_reducible assumption) | ((with_reducible refine Has.box _ _ ?_ ?_) <;> (first | assumption | decide)) | (with_reducible refine Has.alloc ?_ _) | ((with_reducible refine Has.putOther ?_ _ _ ?_); rotate_left; omega; skip) | ((with_reducible refine Has.below ?_ ?_); rotate_left; assumption)))); (· kernel_rfl))))
    refine (implSorted R _ hR).mono ?_
    rintro e w2 ⟨rfl, b2⟩
    rw [VV.out]
    have S1 := Lib.hid (HB.out.call b2)
    clear b2 HB A1
    go_wp2_with fail
    go_ret2
    exact ⟨by rw [E.out, OKH.out]; rfl, S1.out⟩

set_option maxHeartbeats 1600000 in
set_option maxRecDepth 100000 in
theorem implUndo (ns fs : List Int) (v : Value) (n b : Nat) (k : Int) (w : World) (h24 : ns.length = 24) (hn : n ≤ 1048576) (h : Rw w b v n fs) :
    Calls Try.prog 24 #[rpV ns v, .int .i64 k] w (RepPost (upOk ns fs n k) ns (n - k.toNat) (fs.take ((n - k.toNat) * 2)) w) := by
  obtain ⟨a, cap, rfl⟩ := h.shape
  have FL := Lib.hid h.flat
  have RY := (Ry.box (v := .slice a n cap) w 33 h24).alloc (.cells z25.toArray 33)
  have Z := (Ry.zero (w.alloc (.cells (rpC ns (.slice a n cap)).toArray 33)) 33).at (size1 _ _)
  have HB := Lib.hid (((kept_refl w).alloc (.cells (rpC ns (.slice a n cap)).toArray 33)).alloc (.cells z25.toArray 33))
  have HR := Lib.hid ((h.alloc (.cells (rpC ns (.slice a n cap)).toArray 33)).alloc (.cells z25.toArray 33))
  have hsz : ((w.alloc (.cells (rpC ns (.slice a n cap)).toArray 33)).alloc (.cells z25.toArray 33)).heap.size = w.heap.size + 2 := by simp
  clear h
  unfold rpV
  go_enter Try.func24, Try.ntmps24
  go_upto_region 1 with fail
  try rw [cells25C]
  generalize ((w.alloc (.cells (rpC ns (.slice a n cap)).toArray 33)).alloc (.cells z25.toArray 33)) = W at *
  have hW := hsz
  clear hsz
  go_wp2_with (refine guardY (isLdY 33) ?_ ?_; (· rfl); refine load_ry rfl 33 _ rfl w.heap.size rfl _ _ _ RY _ Try.underlying33 rfl ?_ ?_; (· kernel_rfl))
  refine (implIsReplay ns fs (.slice a n cap) n b _ h24 hn HR.out).mono ?_
  rintro e w1 ⟨rfl, b1⟩
  have hws : w.heap.size + 2 ≤ w1.heap.size := by have := b1.size; omega
  replace RY := RY.below b1
  replace Z := Z.below b1
  replace HB := Lib.hid (HB.out.call b1)
  replace HR := Lib.hid (HR.out.below b1)
  clear b1 hW
  have c24 := RY.pours
  cases hok : rpOk ns fs n with
  | false =>
    have E := Lib.hid (up_no k hok)
    have S1 := Lib.hid (Z.putAll z24 (.slice none 0 0) rfl)
    have S2 := Lib.hid (HB.out.puts (b := w.heap.size + 1) (by omega) 0 (rpC z24 (.slice none 0 0)))
    clear hok c24
    go_wp2_with (first | (refine guardY (isBdY 33) ?_ ?_; (· rfl); refine build_law rfl 33 rfl _ buildRpZ ?_) | (refine guardY (isStY 33) ?_ ?_; (· rfl); refine store_ry rfl 33 _ _ rfl (w.heap.size + 1) rfl z24 (.slice none 0 0) rfl _ _ _ Z rfl rfl ?_ ?_; (· kernel_rfl)))
    exact bodyPost_ret (res_ry1 rfl _ _ (w.heap.size + 1) z24 _ _ _ (.bool false) rfl rfl S1.out Try.underlying33 rfl (by kernel_rfl)) rfl ⟨.slice none 0 0, by rw [E.out]; rfl, by rw [E.out]; exact Rw.nil _ _, S2.out⟩
  | true =>
    have n60 := rp_le hok
    by_cases hk : 0 ≤ k ∧ k ≤ n
    · obtain ⟨j, rfl⟩ : ∃ j : Nat, k = (j : Int) := ⟨k.toNat, by omega⟩
      have hj : j ≤ n := by omega
      have E := Lib.hid (up_yes hok hj)
      have k0 : decide ((j : Int) < 0) = false := by simp
      have k1 : decide ((n : Int) < (j : Int)) = false := by simp; omega
      have k2 : decide (n < j) = false := by simp; omega
      have wr1 : IntKind.i64.wrap ((n : Int) - (j : Int)) = ((n - j : Nat) : Int) := by rw [IntWalk.i64_in _ (by omega)]; omega
      have EU := Lib.hid (undo_eq FL.out hj)
      have EN : Hid (n - (n - (n - j)) = n - j) := Lib.hid (by omega)
      clear hok hk
      go_wp2_with (refine guardY (isLdY 33) ?_ ?_; (· rfl); refine load_ry rfl 33 _ rfl w.heap.size rfl _ _ _ RY _ Try.underlying33 rfl ?_ ?_; (· kernel_rfl))
      refine (without_any ns fs (.slice a n cap) n b (n - j) n _ h24 hn HR.out (by omega) (Nat.le_refl _)).mono ?_
      rintro e w2 ⟨u, rfl, q2, b2⟩
      rw [EU.out, EN.out] at q2
      have ow := Lib.hid (fun hn0 z hz => (q2.ownlt hn0 z hz).1)
      replace Z := Z.below b2
      replace HB := Lib.hid (HB.out.call b2)
      obtain ⟨ua, uc, rfl⟩ := q2.shape
      have Q := Lib.hid (q2.mono (b' := w.heap.size) (by omega))
      have S1 := Lib.hid (Z.putAll ns (.slice ua (n - j) uc) h24)
      have S2 := Lib.hid (HB.out.puts (b := w.heap.size + 1) (by omega) 0 (rpC ns (.slice ua (n - j) uc)))
      have S3 := Lib.hid (Q.out.puts (w.heap.size + 1) 0 (rpC ns (.slice ua (n - j) uc)) (fun hn0 e => by have := ow.out hn0 _ e; omega))
      clear q2 b2 c24 RY HR
      go_wp2_with (refine guardY (isStY 33) ?_ ?_; (· rfl); refine store_ry rfl 33 _ _ rfl (w.heap.size + 1) rfl ns (.slice ua (n - j) uc) rfl _ _ _ Z h24 rfl ?_ ?_; (· kernel_rfl))
      exact bodyPost_ret (res_ry1 rfl _ _ (w.heap.size + 1) ns _ _ _ (.bool true) rfl rfl S1.out Try.underlying33 rfl (by kernel_rfl)) rfl ⟨_, by rw [E.out]; rfl, by rw [E.out]; exact S3.out, S2.out⟩
    · have E := Lib.hid (up_out (ns := ns) (fs := fs) hk)
      have S1 := Lib.hid (Z.putAll z24 (.slice none 0 0) rfl)
      have S2 := Lib.hid (HB.out.puts (b := w.heap.size + 1) (by omega) 0 (rpC z24 (.slice none 0 0)))
      by_cases h0 : k < 0
      · clear hok hk
        go_wp2_with (first | (refine guardY (isBdY 33) ?_ ?_; (· rfl); refine build_law rfl 33 rfl _ buildRpZ ?_) | (refine guardY (isStY 33) ?_ ?_; (· rfl); refine store_ry rfl 33 _ _ rfl (w.heap.size + 1) rfl z24 (.slice none 0 0) rfl _ _ _ Z rfl rfl ?_ ?_; (· kernel_rfl)))
        exact bodyPost_ret (res_ry1 rfl _ _ (w.heap.size + 1) z24 _ _ _ (.bool false) rfl rfl S1.out Try.underlying33 rfl (by kernel_rfl)) rfl ⟨.slice none 0 0, by rw [E.out]; rfl, by rw [E.out]; exact Rw.nil _ _, S2.out⟩
      · have k1 : (n : Int) < k := by omega
        have k0 : decide (k < 0) = false := by simpa using h0
        clear hok hk h0
        go_wp2_with (first | (refine guardY (isBdY 33) ?_ ?_; (· rfl); refine build_law rfl 33 rfl _ buildRpZ ?_) | (refine guardY (isStY 33) ?_ ?_; (· rfl); refine store_ry rfl 33 _ _ rfl (w.heap.size + 1) rfl z24 (.slice none 0 0) rfl _ _ _ Z rfl rfl ?_ ?_; (· kernel_rfl)))
        exact bodyPost_ret (res_ry1 rfl _ _ (w.heap.size + 1) z24 _ _ _ (.bool false) rfl rfl S1.out Try.underlying33 rfl (by kernel_rfl)) rfl ⟨.slice none 0 0, by rw [E.out]; rfl, by rw [E.out]; exact Rw.nil _ _, S2.out⟩
end Go.Proofs.Ytalngdccjoafhaa.base
end
