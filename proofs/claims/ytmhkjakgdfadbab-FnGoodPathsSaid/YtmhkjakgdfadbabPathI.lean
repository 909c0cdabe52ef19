/-
  Paths on the program's side, walked: whether all pours are good.
-/
import Derived.Test.YtmhkjakgdfadbabPathS
namespace Go.Proofs.Ytmhkjakgdfadbab.base
open Go.ChangeShapes Go.WideShapes Go.ChangeAt Go.RowKit
set_option linter.unusedVariables false
set_option linter.unusedSimpArgs false

theorem arePath_any (ns : List Int) (a : Option Addr) (n cap : Nat) (w : World) (h24 : ns.length = 24) (hn : n ≤ 1048576) :
    Calls Try.prog 33 #[row ns, .slice a n cap] w fun e w' => e = .returned (.bool (pathOk ns n)) ∧ Kept w w' := by
  have HB := Lib.hid ((kept_refl w).alloc (.cells (ints ns).toArray 27))
  have H := Has.box w 27 h24 (by omega)
  rw [row_ints]
  go_enter Try.func33, Try.ntmps33
  go_wp2_with (refine load_has rfl 27 _ rfl _ rfl ?_ 24 ?_ _ Try.underlying27 rfl ?_ ?_; rotate_left; (· (repeat (first | (with_reducible assumption) | ((with_reducible refine Has.box _ _ ?_ ?_) <;> (first | assumption | decide)) | (with_reducible refine Has.alloc ?_ _) | ((with_reducible refine Has.putOther ?_ _ _ ?_); rotate_left; omega; skip) | ((with_reducible refine Has.below ?_ ?_); rotate_left; assumption)))); (· kernel_rfl))
  refine (isRack_any ns _ h24).mono ?_
  rintro e w1 ⟨rfl, b1⟩
  have HB1 := Lib.hid (HB.out.call b1)
  clear H HB b1
  by_cases hv : vR ns = true
  · have E : Hid (pathOk ns n = decide ((n : Int) ≤ 60)) := Lib.hid (by unfold pathOk; rw [hv, Bool.true_and, decide_eq_decide]; omega)
    rw [hv]
    clear hv
    go_wp2_with fail
    go_ret
    exact ⟨ret_bool E.out.symm, HB1.out⟩
  · have hf : vR ns = false := by simpa using hv
    have E : Hid (pathOk ns n = false) := Lib.hid (by unfold pathOk; rw [hf]; rfl)
    rw [hf]
    clear hf hv
    go_wp2_with fail
    go_ret
    exact ⟨ret_bool E.out.symm, HB1.out⟩

set_option maxHeartbeats 3200000 in
set_option maxRecDepth 100000 in
theorem implIsGood (ns fs : List Int) (v : Value) (n b : Nat) (w : World) (h24 : ns.length = 24) (hn : n ≤ 1048576) (h : Rw w b v n fs) :
    Calls Try.prog 13 #[row ns, v] w fun e w' => e = .returned (.tuple #[.bool (pathA ns fs n), .bool (pathOk ns n)]) ∧ Kept w w' := by
  have HB := Lib.hid ((kept_refl w).alloc (.cells (ints ns).toArray 27))
  have H := Has.box w 27 h24 (by omega)
  have HR0 := Lib.hid (h.alloc (.cells (ints ns).toArray 27))
  have AP := Lib.hid (fun hn0 k hk => (h.ownlt hn0 k hk).2)
  obtain ⟨a, cap, rfl⟩ := h.shape
  clear h
  rw [row_ints]
  go_enter Try.func13, Try.ntmps13
  go_wp2_with (refine load_has rfl 27 _ rfl _ rfl ?_ 24 ?_ _ Try.underlying27 rfl ?_ ?_; rotate_left; (· (repeat (first | (with_reducible assumption) | ((with_reducible refine Has.box _ _ ?_ ?_) <;> (first | assumption | decide)) | (with_reducible refine Has.alloc ?_ _) | ((with_reducible refine Has.putOther ?_ _ _ ?_); rotate_left; omega; skip) | ((with_reducible refine Has.below ?_ ?_); rotate_left; assumption)))); (· kernel_rfl))
  refine (arePath_any ns a n cap _ h24 hn).mono ?_
  rintro e w1 ⟨rfl, b1⟩
  replace H := H.below b1
  replace HB := Lib.hid (HB.out.call b1)
  replace HR0 := Lib.hid (HR0.out.below b1)
  clear b1
  have H24 := Lib.hid h24
  clear h24
  by_cases hok : pathOk ns n = true
  rotate_left
  · have hf : pathOk ns n = false := by simpa using hok
    have E2 : Hid (pathA ns fs n = false) := Lib.hid (by unfold pathA; rw [hf]; rfl)
    have E := Lib.hid hf
    rw [hf]
    clear hf hok
    go_wp2_with fail
    go_ret2
    exact ⟨by rw [E.out, E2.out]; rfl, HB.out⟩
  have E := Lib.hid hok
  have E2 : Hid (pathA ns fs n = pathUp ns fs n) := Lib.hid (by unfold pathA; rw [E.out]; rfl)
  have U0 : Hid (pathUp ns fs 0 = true) := Lib.hid rfl
  rw [hok]
  clear hok
  go_wp2_with fail
  go_loopw [14] (fun i wr => ∃ k : Nat, k ≤ n ∧ i = .int .i64 k ∧ Has wr w.heap.size (doR ns fs k) 24 ∧ Hid (Rw wr b (.slice a n cap) n fs) ∧ Hid (Kept w wr) ∧ Hid (pathUp ns fs k = true)) (fun i _ => n - (intOf i).toNat)
  case atStart => exact ⟨0, by omega, rfl, H, HR0, HB, U0⟩
  case round =>
    clear H HR0 HB U0
    obtain ⟨k, hk, rfl, G1, GR, GB, GU⟩ := hrel
    by_cases hlt : k < n
    · have hgw := AP.out (by omega)
      have ki : (k : Int) < ((n : Nat) : Int) := by omega
      have k0 : (0 : Int) ≤ (k : Int) := by omega
      obtain ⟨g, cap2, hv', _, _⟩ := GR.out.form (by omega)
      injection hv' with ha _ hcap
      subst ha
      subst hcap
      have hlt := GR.out.lt (by omega)
      have C0 : Hid (∀ w', Kept wr w' → w'.cell? ⟨g, k * 2, none⟩ = some (.int .i64 (fs.getD (k * 2) 0))) := Lib.hid (fun w' hw => (GR.out.below hw).cell (k * 2) (by omega))
      have C1 : Hid (∀ w', Kept wr w' → w'.cell? ⟨g, k * 2 + 1, none⟩ = some (.int .i64 (fs.getD (k * 2 + 1) 0))) := Lib.hid (fun w' hw => (GR.out.below hw).cell (k * 2 + 1) (by omega))
      have C24 := Lib.hid (doR_len H24.out fs k)
      have ER := Lib.hid (doR_next (ns := ns) (fs := fs) k)
      have EU : Hid (pathUp ns fs (k + 1) = (pathUp ns fs k && goodP (doR ns fs k) (fs.getD (k * 2) 0) (fs.getD (k * 2 + 1) 0))) := Lib.hid rfl
      have NO := Lib.hid (fun h => path_no (ns := ns) (fs := fs) (k := k + 1) h n (by omega))
      rw [GU.out, Bool.true_and] at EU
      have hl2 := pourR_len C24.out (fs.getD (k * 2) 0) (fs.getD (k * 2 + 1) 0)
      generalize fs.getD (k * 2) 0 = x at *
      generalize fs.getD (k * 2 + 1) 0 = y at *
      generalize doR ns fs k = C at *
      have RG := Lib.hid (range_two (C0.out wr (kept_refl wr)) (C1.out wr (kept_refl wr)))
      have hP2 : ([x, y] : List Int).length = 2 := rfl
      have hc24 := C24.out
      have hgb := hgw g rfl
      have B8 := Has.box (ns := [x, y]) (n := 2) wr 44 rfl (by omega)
      have F1 := G1.alloc (.cells (ints [x, y]).toArray 44)
      have FR := Lib.hid (GR.out.alloc (.cells (ints [x, y]).toArray 44))
      have FB := Lib.hid (GB.out.alloc (.cells (ints [x, y]).toArray 44))
      clear C0 C1 G1 GR GB
      go_wp2_with (first | (refine wpList_load_mid rfl 44 _ rfl g (k * 2) rfl (ints [x, y]) _ RG.out Try.underlying44 rfl (by kernel_rfl) ?_) | (refine store_new rfl 44 _ _ rfl _ _ _ rfl _ rfl _ rfl rfl ?_ ?_ ?_; (· (first | assumption | rfl)); (· kernel_rfl)) | (refine load_has rfl 27 _ rfl _ rfl ?_ 24 ?_ _ Try.underlying27 rfl ?_ ?_; rotate_left; (· (repeat (first | (with_reducible assumption) | ((with_reducible refine Has.box _ _ ?_ ?_) <;> (first | assumption | decide)) | (with_reducible refine Has.alloc ?_ _) | ((with_reducible refine Has.putOther ?_ _ _ ?_); rotate_left; omega; skip) | ((with_reducible refine Has.below ?_ ?_); rotate_left; assumption)))); (· kernel_rfl)) | (refine load_has rfl 44 _ rfl _ rfl ?_ 2 ?_ _ Try.underlying44 rfl ?_ ?_; rotate_left; (· (repeat (first | (with_reducible assumption) | ((with_reducible refine Has.box _ _ ?_ ?_) <;> (first | assumption | decide)) | (with_reducible refine Has.alloc ?_ _) | ((with_reducible refine Has.putOther ?_ _ _ ?_); rotate_left; omega; skip) | ((with_reducible refine Has.below ?_ ?_); rotate_left; assumption)))); (· kernel_rfl)))
      refine (isGood_any C x y _ hc24).mono ?_
      rintro e w2 ⟨rfl, b2⟩
      have B9 := B8.below b2
      have cc0 := B9.cell 0 (by omega)
      have cc1 := B9.cell 1 (by omega)
      rw [List.getD_cons_zero] at cc0
      rw [List.getD_cons_succ, List.getD_cons_zero] at cc1
      replace F1 := F1.below b2
      replace FR := Lib.hid (FR.out.below b2)
      replace FB := Lib.hid (FB.out.call b2)
      clear b2 RG B8 B9
      cases hg : goodP C x y with
      | false =>
        have Z : Hid (pathUp ns fs n = false) := Lib.hid (NO.out (by rw [EU.out, hg]))
        clear hg
        go_wp2_with fail
        go_ret2
        exact ⟨by rw [E2.out, Z.out, E.out]; rfl, FB.out⟩
      | true =>
        have Z : Hid (pathUp ns fs (k + 1) = true) := Lib.hid (by rw [EU.out, hg])
        clear hg
        go_wp2_with (refine load_has rfl 27 _ rfl _ rfl ?_ 24 ?_ _ Try.underlying27 rfl ?_ ?_; rotate_left; (· (repeat (first | (with_reducible assumption) | ((with_reducible refine Has.box _ _ ?_ ?_) <;> (first | assumption | decide)) | (with_reducible refine Has.alloc ?_ _) | ((with_reducible refine Has.putOther ?_ _ _ ?_); rotate_left; omega; skip) | ((with_reducible refine Has.below ?_ ?_); rotate_left; assumption)))); (· kernel_rfl))
        refine (implPour C x y _ hc24).mono ?_
        rintro e w3 ⟨rfl, b3⟩
        replace F1 := F1.below b3
        have M1 : Has (w3.setCells w.heap.size 0 (ints (pourR C x y))) w.heap.size (doR ns fs (k + 1)) 24 := by rw [ER.out]; exact F1.putAll _ hl2
        have M2 := Lib.hid ((FR.out.below b3).puts w.heap.size 0 (ints (pourR C x y)) (fun _ e => by simp only [Value.ownBlock, Option.some.injEq] at e; omega))
        have M3 := Lib.hid ((FB.out.call b3).puts (b := w.heap.size) (Nat.le_refl _) 0 (ints (pourR C x y)))
        clear FR FB b3 cc0 cc1
        go_wp2_with (first | (refine store_at rfl 27 _ _ rfl _ _ rfl rfl ?_ 24 ?_ ?_ ?_ ?_; rotate_left; (· (repeat (first | (with_reducible assumption) | ((with_reducible refine Has.box _ _ ?_ ?_) <;> (first | assumption | decide)) | (with_reducible refine Has.alloc ?_ _) | ((with_reducible refine Has.putOther ?_ _ _ ?_); rotate_left; omega; skip) | ((with_reducible refine Has.below ?_ ?_); rotate_left; assumption)))); (· (first | assumption | rfl)); (· kernel_rfl)))
        go_roundw
        case rel => exact ⟨k + 1, by omega, by go_num, M1, M2, M3, Z⟩
        case measure => simp [intOf]; omega
    · obtain rfl : k = n := by omega
      go_wp2_with fail
      go_ret2
      exact ⟨by rw [E2.out, GU.out, E.out]; rfl, GB.out⟩
end Go.Proofs.Ytmhkjakgdfadbab.base
