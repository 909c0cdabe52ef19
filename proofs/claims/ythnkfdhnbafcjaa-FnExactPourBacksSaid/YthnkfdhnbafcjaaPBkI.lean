/-
  Sources of a list, poured back on the program's side, walked.
-/
import Derived.Test.YthnkfdhnbafcjaaPBkS
namespace Go.Proofs.Ythnkfdhnbafcjaa.base
open Go.ChangeShapes Go.WideShapes Go.ChangeAt Go.RowKit
set_option linter.unusedVariables false
set_option linter.unusedSimpArgs false

set_option maxHeartbeats 3200000 in
set_option maxRecDepth 100000 in
theorem implPBk (ns fs : List Int) (v : Value) (n b : Nat) (w : World) (h24 : ns.length = 24) (hn : n ≤ 1048576) (h : Tri w b v n fs) :
    Calls Try.prog 25 #[row ns, v] w fun e w' => e = .returned (.tuple #[.agg (ints (pbRA ns fs n)).toArray, .int .i64 (pbNA ns fs n : Nat), .bool (vR ns)]) ∧ Kept w w' := by
  have HB := Lib.hid (((kept_refl w).alloc (.cells (ints ns).toArray 28)).alloc (.cells #[.int .i64 0, .int .i64 0, .int .i64 0, .int .i64 0, .int .i64 0, .int .i64 0, .int .i64 0, .int .i64 0, .int .i64 0, .int .i64 0, .int .i64 0, .int .i64 0, .int .i64 0, .int .i64 0, .int .i64 0, .int .i64 0, .int .i64 0, .int .i64 0, .int .i64 0, .int .i64 0, .int .i64 0, .int .i64 0, .int .i64 0, .int .i64 0] 28))
  have H := (Has.box w 28 h24 (by omega)).alloc (.cells #[.int .i64 0, .int .i64 0, .int .i64 0, .int .i64 0, .int .i64 0, .int .i64 0, .int .i64 0, .int .i64 0, .int .i64 0, .int .i64 0, .int .i64 0, .int .i64 0, .int .i64 0, .int .i64 0, .int .i64 0, .int .i64 0, .int .i64 0, .int .i64 0, .int .i64 0, .int .i64 0, .int .i64 0, .int .i64 0, .int .i64 0, .int .i64 0] 28)
  have Z := (Has.zero24 (w.alloc (.cells (ints ns).toArray 28)) 28).at (size1 _ _)
  have hz : z24.length = 24 := rfl
  have HP := Lib.hid ((h.alloc (.cells (ints ns).toArray 28)).alloc (.cells #[.int .i64 0, .int .i64 0, .int .i64 0, .int .i64 0, .int .i64 0, .int .i64 0, .int .i64 0, .int .i64 0, .int .i64 0, .int .i64 0, .int .i64 0, .int .i64 0, .int .i64 0, .int .i64 0, .int .i64 0, .int .i64 0, .int .i64 0, .int .i64 0, .int .i64 0, .int .i64 0, .int .i64 0, .int .i64 0, .int .i64 0, .int .i64 0] 28))
  have AP := Lib.hid (fun k hk => (World.ownsRow.lt h k hk).2)
  obtain ⟨a, cap, rfl⟩ := tri_slice h
  have FL := Lib.hid h.flat
  clear h
  rw [row_ints]
  go_enter Try.func25, Try.ntmps25
  go_wp2_with (refine load_has rfl 28 _ rfl _ rfl ?_ 24 ?_ _ Try.underlying28 rfl ?_ ?_; rotate_left; (· (repeat (first | (with_reducible assumption) | ((with_reducible refine Has.box _ _ ?_ ?_) <;> (first | assumption | decide)) | (with_reducible refine Has.alloc ?_ _) | ((with_reducible refine Has.putOther ?_ _ _ ?_); rotate_left; omega; skip) | ((with_reducible refine Has.below ?_ ?_); rotate_left; assumption)))); (· kernel_rfl))
  refine (isRack_any ns _ h24).mono ?_
  rintro e w1 ⟨rfl, b1⟩
  have H1 := H.below b1
  have Z1 := Z.below b1
  have HP1 := Lib.hid (HP.out.below b1)
  have HB1 := Lib.hid (HB.out.call b1)
  clear H Z HP HB b1
  by_cases hv : vR ns = true
  · have HV := Lib.hid hv
    have O0 : Hid (pbOk ns fs 0 = true) := Lib.hid rfl
    rw [hv]
    have HL := Lib.hid (pbR_len h24 fs)
    have VL := Lib.hid (pb_valid h24 hv fs)
    clear hv
    go_wp2_with fail
    go_loopw [17] (fun i wr => ∃ k : Nat, k ≤ n ∧ i = .int .i64 k ∧ Has wr w.heap.size (pbR ns fs k) 24 ∧ Has wr (w.heap.size + 1) z24 24 ∧ Hid (Tri wr b (.slice a n cap) n fs) ∧ Hid (Kept w wr) ∧ Hid (pbOk ns fs k = true)) (fun i _ => n - (intOf i).toNat)
    case atStart => exact ⟨0, by omega, rfl, H1, Z1, HP1, HB1, O0⟩
    case round =>
      obtain ⟨k, hk, rfl, G1, G2, GP, GB, GO⟩ := hrel
      by_cases hlt : k < n
      · have ki : (k : Int) < ((n : Nat) : Int) := by omega
        have k0 : (0 : Int) ≤ (k : Int) := by omega
        obtain ⟨g, cap2, hv', _, _⟩ := GP.out.form (by omega)
        injection hv' with ha _ hcap
        subst ha
        subst hcap
        have hR := HL.out k
        have hVR := VL.out k GO.out
        have hgw := AP.out g rfl
        have hx3 := tr3_len fs k n FL.out hlt
        have C0 := Lib.hid (fun (w' : World) (h : Tri w' b (.slice (some ⟨g, 0, none⟩) n cap) n fs) => h.range k hlt)
        have ER := Lib.hid (show pbR ns fs (k + 1) = backRL (pbR ns fs k) (tr3 fs k) from rfl)
        have EO := Lib.hid (show pbOk ns fs (k + 1) = (pbOk ns fs k && backOkL (pbR ns fs k) (tr3 fs k)) from rfl)
        have ES := Lib.hid (fun (h1 : pbOk ns fs (k + 1) = false) => pb_stop (n := n) HV.out GO.out h1 (by omega))
        have hl2 := backRL_len hR (tr3 fs k)
        generalize tr3 fs k = x at *
        generalize pbR ns fs k = R at *
        have l1 : (ints R).length = 24 := by rw [ints_len]; exact hR
        have l2 : (ints (backRL R x)).length = 24 := by rw [ints_len]; exact hl2
        have hi0 : (Try.prog.info? 28).map (·.size) = some 24 := by kernel_rfl
        have hi1 : (Try.prog.info? 28).map (·.size) = some (ints R).length := by rw [l1]; exact hi0
        have hi3 : (Try.prog.info? 32).map (·.size) = some (ints x).length := by rw [ints_len, hx3]; kernel_rfl
        have RG := Lib.hid (C0.out wr GP.out)
        have B8 := Has.box wr 32 hx3 (by omega)
        have F1 := G1.alloc (.cells (ints x).toArray 32)
        have F2 := G2.alloc (.cells (ints x).toArray 32)
        have FP := Lib.hid (GP.out.alloc (.cells (ints x).toArray 32))
        have FB := Lib.hid (GB.out.alloc (.cells (ints x).toArray 32))
        have h1 := F1.lt
        have h2 := F2.lt
        clear G1 G2 GP GB C0 hVR
        go_wp2_with (first | (refine wpList_load_mid rfl 32 _ rfl g (k * 3) rfl (ints x) _ RG.out Try.underlying32 rfl hi3 ?_) | (refine store_new rfl 32 _ _ rfl _ _ _ rfl _ rfl _ rfl rfl ?_ ?_ ?_; (· (first | assumption | rfl)); (· kernel_rfl)) | (refine load_has rfl 28 _ rfl _ rfl ?_ 24 ?_ _ Try.underlying28 rfl ?_ ?_; rotate_left; (· (repeat (first | (with_reducible assumption) | ((with_reducible refine Has.box _ _ ?_ ?_) <;> (first | assumption | decide)) | (with_reducible refine Has.alloc ?_ _) | ((with_reducible refine Has.putOther ?_ _ _ ?_); rotate_left; omega; skip) | ((with_reducible refine Has.below ?_ ?_); rotate_left; assumption)))); (· kernel_rfl)) | (refine load_has rfl 32 _ rfl _ rfl ?_ 3 ?_ _ Try.underlying32 rfl ?_ ?_; rotate_left; (· (repeat (first | (with_reducible assumption) | ((with_reducible refine Has.box _ _ ?_ ?_) <;> (first | assumption | decide)) | (with_reducible refine Has.alloc ?_ _) | ((with_reducible refine Has.putOther ?_ _ _ ?_); rotate_left; omega; skip) | ((with_reducible refine Has.below ?_ ?_); rotate_left; assumption)))); (· kernel_rfl)))
        refine (implBackL R x _ hR hx3).mono ?_
        rintro e w2 ⟨rfl, b2⟩
        have h3 := (F1.below b2).lt
        have h4 := (F2.below b2).lt
        have F9 := Has.box (ns := backRL R x) w2 28 hl2 (by omega)
        have F1 := (F1.below b2).alloc (.cells (ints (backRL R x)).toArray 28)
        have F2 := (F2.below b2).alloc (.cells (ints (backRL R x)).toArray 28)
        have KP := Lib.hid ((FP.out.below b2).alloc (.cells (ints (backRL R x)).toArray 28))
        have KB := Lib.hid ((FB.out.call b2).alloc (.cells (ints (backRL R x)).toArray 28))
        clear FP FB RG B8 b2
        by_cases hp : backOkL R x = true
        · have GO2 : Hid (pbOk ns fs (k + 1) = true) := Lib.hid (by rw [EO.out, GO.out, hp]; rfl)
          rw [hp]
          have N1 := Has.is3 (F1.putAll (backRL R x) hl2) ER.out.symm
          have N2 := F2.putOther (b' := w.heap.size) 0 (ints (backRL R x)) (by omega)
          have NP := Lib.hid (KP.out.puts w.heap.size 0 (ints (backRL R x)) (fun k hk => by simp only [Value.ownBlock, Option.some.injEq] at hk; omega))
          have NB := Lib.hid (KB.out.puts (b := w.heap.size) (Nat.le_refl _) 0 (ints (backRL R x)))
          clear hp
          go_wp2_with (first | (refine store_new rfl 28 _ _ rfl _ _ _ rfl _ rfl _ rfl rfl ?_ ?_ ?_; (· (first | assumption | rfl)); (· kernel_rfl)) | (refine load_has rfl 28 _ rfl _ rfl ?_ 24 ?_ _ Try.underlying28 rfl ?_ ?_; rotate_left; (· (repeat (first | (with_reducible assumption) | ((with_reducible refine Has.box _ _ ?_ ?_) <;> (first | assumption | decide)) | (with_reducible refine Has.alloc ?_ _) | ((with_reducible refine Has.putOther ?_ _ _ ?_); rotate_left; omega; skip) | ((with_reducible refine Has.below ?_ ?_); rotate_left; assumption)))); (· kernel_rfl)) | (refine store_at rfl 28 _ _ rfl _ _ rfl rfl ?_ 24 ?_ ?_ ?_ ?_; rotate_left; (· (repeat (first | (with_reducible assumption) | ((with_reducible refine Has.box _ _ ?_ ?_) <;> (first | assumption | decide)) | (with_reducible refine Has.alloc ?_ _) | ((with_reducible refine Has.putOther ?_ _ _ ?_); rotate_left; omega; skip) | ((with_reducible refine Has.below ?_ ?_); rotate_left; assumption)))); (· (first | assumption | rfl)); (· kernel_rfl)))
          go_roundw
          case rel => exact ⟨k + 1, by omega, by go_num, N1, N2, NP, NB, GO2⟩
          case measure => simp [intOf]; omega
        · have hf : backOkL R x = false := by simpa using hp
          have D := Lib.hid (ES.out (by rw [EO.out, hf, Bool.and_false]))
          rw [hf]
          have S1 := Lib.hid (F2.putAll R hR)
          have S2 := Lib.hid (KB.out.puts (b := w.heap.size + 1) (by omega) 0 (ints R))
          clear hf hp
          go_wp2_with (first | (refine store_new rfl 28 _ _ rfl _ _ _ rfl _ rfl _ rfl rfl ?_ ?_ ?_; (· (first | assumption | rfl)); (· kernel_rfl)) | (refine load_has rfl 28 _ rfl _ rfl ?_ 24 ?_ _ Try.underlying28 rfl ?_ ?_; rotate_left; (· (repeat (first | (with_reducible assumption) | ((with_reducible refine Has.box _ _ ?_ ?_) <;> (first | assumption | decide)) | (with_reducible refine Has.alloc ?_ _) | ((with_reducible refine Has.putOther ?_ _ _ ?_); rotate_left; omega; skip) | ((with_reducible refine Has.below ?_ ?_); rotate_left; assumption)))); (· kernel_rfl)) | (refine store_at rfl 28 _ _ rfl _ _ rfl rfl ?_ 24 ?_ ?_ ?_ ?_; rotate_left; (· (repeat (first | (with_reducible assumption) | ((with_reducible refine Has.box _ _ ?_ ?_) <;> (first | assumption | decide)) | (with_reducible refine Has.alloc ?_ _) | ((with_reducible refine Has.putOther ?_ _ _ ?_); rotate_left; omega; skip) | ((with_reducible refine Has.below ?_ ?_); rotate_left; assumption)))); (· (first | assumption | rfl)); (· kernel_rfl)))
          exact bodyPost_ret (res_has2 rfl _ _ (w.heap.size + 1) R 24 _ (.int .i64 (k : Nat)) (.bool true) rfl rfl rfl S1.out Try.underlying28 rfl (by kernel_rfl)) rfl ⟨by rw [D.out.1, D.out.2, HV.out], S2.out⟩
      · obtain rfl : k = n := by omega
        have D := Lib.hid (pb_end HV.out GO.out)
        have hR := HL.out k
        have S1 := Lib.hid (G2.putAll (pbR ns fs k) hR)
        have S2 := Lib.hid (GB.out.puts (b := w.heap.size + 1) (by omega) 0 (ints (pbR ns fs k)))
        generalize pbR ns fs k = R at *
        go_wp2_with (first | (refine load_has rfl 28 _ rfl _ rfl ?_ 24 ?_ _ Try.underlying28 rfl ?_ ?_; rotate_left; (· (repeat (first | (with_reducible assumption) | ((with_reducible refine Has.box _ _ ?_ ?_) <;> (first | assumption | decide)) | (with_reducible refine Has.alloc ?_ _) | ((with_reducible refine Has.putOther ?_ _ _ ?_); rotate_left; omega; skip) | ((with_reducible refine Has.below ?_ ?_); rotate_left; assumption)))); (· kernel_rfl)) | (refine store_at rfl 28 _ _ rfl _ _ rfl rfl ?_ 24 ?_ ?_ ?_ ?_; rotate_left; (· (repeat (first | (with_reducible assumption) | ((with_reducible refine Has.box _ _ ?_ ?_) <;> (first | assumption | decide)) | (with_reducible refine Has.alloc ?_ _) | ((with_reducible refine Has.putOther ?_ _ _ ?_); rotate_left; omega; skip) | ((with_reducible refine Has.below ?_ ?_); rotate_left; assumption)))); (· (first | assumption | rfl)); (· kernel_rfl)))
        exact bodyPost_ret (res_has2 rfl _ _ (w.heap.size + 1) R 24 _ (.int .i64 (k : Nat)) (.bool true) rfl rfl rfl S1.out Try.underlying28 rfl (by kernel_rfl)) rfl ⟨by rw [D.out.1, D.out.2, HV.out], S2.out⟩
  · have hf : vR ns = false := by simpa using hv
    have D := Lib.hid (pb_no (ns := ns) (fs := fs) (n := n) hf)
    have HV := Lib.hid hf
    rw [hf]
    have S1 := Lib.hid (Z1.putAll z24 rfl)
    have S2 := Lib.hid (HB1.out.puts (b := w.heap.size + 1) (by omega) 0 (ints z24))
    clear hf hv
    go_wp2_with (first | (refine build_law rfl 28 rfl _ buildRack ?_) | (refine store_at rfl 28 _ _ rfl _ _ rfl rfl ?_ 24 ?_ ?_ ?_ ?_; rotate_left; (· (repeat (first | (with_reducible assumption) | ((with_reducible refine Has.box _ _ ?_ ?_) <;> (first | assumption | decide)) | (with_reducible refine Has.alloc ?_ _) | ((with_reducible refine Has.putOther ?_ _ _ ?_); rotate_left; omega; skip) | ((with_reducible refine Has.below ?_ ?_); rotate_left; assumption)))); (· (first | assumption | rfl)); (· kernel_rfl)))
    exact bodyPost_ret (res_has2 rfl _ _ (w.heap.size + 1) z24 24 _ (.int .i64 0) (.bool false) rfl rfl rfl S1.out Try.underlying28 rfl (by kernel_rfl)) rfl ⟨by rw [D.out.1, D.out.2, HV.out]; rfl, S2.out⟩
end Go.Proofs.Ythnkfdhnbafcjaa.base
