/-
  The bounds along a path, on the program's side, walked.
-/
import Derived.Test.YtmhkjakgdfadbabAlgS
import Derived.Deep.Cut
namespace Go.Proofs.Ytmhkjakgdfadbab.base
open Go.ChangeShapes Go.WideShapes Go.ChangeAt Go.RowKit
set_option linter.unusedVariables false
set_option linter.unusedSimpArgs false

set_option maxHeartbeats 3200000 in
set_option maxRecDepth 100000 in
theorem implAlong (ns fs : List Int) (v : Value) (n b : Nat) (w : World) (h24 : ns.length = 24) (hn : n ≤ 1048576) (h : Rw w b v n fs) :
    Calls Try.prog 15 #[row ns, v] w (AlongPost ns fs n w) := by
  obtain ⟨i0, hi, hz0, hz1, hz2⟩ := infoN_parts infoN
  have HB := Lib.hid ((kept_refl w).alloc (.cells (ints ns).toArray 27))
  have H := Has.box w 27 h24 (by omega)
  have HR0 := Lib.hid (h.alloc (.cells (ints ns).toArray 27))
  have AP := Lib.hid (fun hn0 k hk => (h.ownlt hn0 k hk).2)
  obtain ⟨a, cap, rfl⟩ := h.shape
  clear h
  rw [row_ints]
  go_enter Try.func15, Try.ntmps15
  go_wp2_with (refine load_has rfl 27 _ rfl _ rfl ?_ 24 ?_ _ Try.underlying27 rfl ?_ ?_; rotate_left; (· (repeat (first | (with_reducible assumption) | ((with_reducible refine Has.box _ _ ?_ ?_) <;> (first | assumption | decide)) | (with_reducible refine Has.alloc ?_ _) | ((with_reducible refine Has.putOther ?_ _ _ ?_); rotate_left; omega; skip) | ((with_reducible refine Has.below ?_ ?_); rotate_left; assumption)))); (· kernel_rfl))
  refine (arePath_any ns a n cap _ h24 hn).mono ?_
  rintro e w1 ⟨rfl, b1⟩
  replace H := H.below b1
  replace HB := Lib.hid (HB.out.call b1)
  replace HR0 := Lib.hid (HR0.out.below b1)
  have hs1 := b1.size
  rw [size1] at hs1
  clear b1
  have H24 := Lib.hid h24
  by_cases hok : pathOk ns n = true
  rotate_left
  · have hf : pathOk ns n = false := by simpa using hok
    have E2 := Lib.hid (along_not (fs := fs) hf)
    have E := Lib.hid hf
    have P0 := Lib.hid (Nu.empty w1 (w.heap.size + 1) hs1)
    have HB2 := Lib.hid (HB.out.alloc (.cells #[] 3))
    rw [hf]
    clear hf hok
    go_wp2_with fail
    go_ret2
    exact ⟨_, by rw [E.out]; rfl, by rw [E2.out.1, E2.out.2]; exact P0.out, HB2.out⟩
  have E := Lib.hid hok
  have hv : vR ns = true := by unfold pathOk at hok; exact (Bool.and_eq_true_iff.1 hok).1
  have hn60 : n ≤ 60 := by unfold pathOk at hok; exact of_decide_eq_true (Bool.and_eq_true_iff.1 hok).2
  have V0 : Hid (vR (doR ns fs 0) = true) := Lib.hid hv
  have T0 : Hid (stopW (canAt ns fs) 0 = 0) := Lib.hid rfl
  rw [hok]
  clear hok
  go_wp2_with (refine load_has rfl 27 _ rfl _ rfl ?_ 24 ?_ _ Try.underlying27 rfl ?_ ?_; rotate_left; (· (repeat (first | (with_reducible assumption) | ((with_reducible refine Has.box _ _ ?_ ?_) <;> (first | assumption | decide)) | (with_reducible refine Has.alloc ?_ _) | ((with_reducible refine Has.putOther ?_ _ _ ?_); rotate_left; omega; skip) | ((with_reducible refine Has.below ?_ ?_); rotate_left; assumption)))); (· kernel_rfl))
  refine (implBound ns _ h24).mono ?_
  rintro e w2 ⟨rfl, b2⟩
  have hs2 := b2.size
  have P1 := Lib.hid (Nu.one w2 (w.heap.size + 1) (by omega) (bndA ns))
  replace H := (H.below b2).alloc (.cells #[.int .i64 (bndA ns)] 3)
  replace HR0 := Lib.hid ((HR0.out.below b2).alloc (.cells #[.int .i64 (bndA ns)] 3))
  replace HB := Lib.hid ((HB.out.call b2).alloc (.cells #[.int .i64 (bndA ns)] 3))
  clear b2 h24 hs1 hs2 hv
  go_wp2_with fail
  go_loopw [6, 8, 28] (fun m u i wr => ∃ k : Nat, k ≤ n ∧ i = .int .i64 k ∧ (∃ z : Int, m = .int .i64 z) ∧ Has wr w.heap.size (doR ns fs k) 24 ∧ Hid (Rw wr b (.slice a n cap) n fs) ∧ Hid (Nu wr (w.heap.size + 1) u (k + 1) (alUp ns fs k)) ∧ Hid (Kept w wr) ∧ Hid (vR (doR ns fs k) = true) ∧ Hid (stopW (canAt ns fs) k = k)) (fun _ _ i _ => n - (intOf i).toNat)
  case atStart => exact ⟨0, by omega, rfl, ⟨_, rfl⟩, H, HR0, P1, HB, V0, T0⟩
  case round =>
    clear H HR0 P1 HB V0 T0
    obtain ⟨k, hk, rfl, ⟨m0, rfl⟩, G1, GR, GU, GB, CV, ST⟩ := hrel
    by_cases hlt : k < n
    · have hgw := AP.out (by omega)
      have ki : (k : Int) < ((n : Nat) : Int) := by omega
      have k0 : (0 : Int) ≤ (k : Int) := by omega
      obtain ⟨g, cap2, hv', _, _⟩ := GR.out.form (by omega)
      injection hv' with ha _ hcap
      subst ha
      subst hcap
      have hlt := GR.out.lt (by omega)
      have C0 : Hid (∀ w', Kept wr w' → w'.cell? ⟨g, k * 2, none⟩ = some (.int .i64 (fs.getD (k * 2) 0))) := Lib.hid (fun w' hw => (GR.out.below hw).cell (k * 2) (by omega))
      have C1 : Hid (∀ w', Kept wr w' → w'.cell? ⟨g, k * 2 + 1, none⟩ = some (.int .i64 (fs.getD (k * 2 + 1) 0))) := Lib.hid (fun w' hw => (GR.out.below hw).cell (k * 2 + 1) (by omega))
      have C24 := Lib.hid (doR_len H24.out fs k)
      have ER := Lib.hid (doR_next (ns := ns) (fs := fs) k)
      have EA := Lib.hid (alUp_next ns fs k)
      have YES := Lib.hid (fun (h : canAt ns fs k = true) => stop_go ST.out h)
      have NO := Lib.hid (fun (h : canAt ns fs k = false) => along_yes (ns := ns) (fs := fs) E.out (stop_end ST.out h n (by omega)))
      have EC : canAt ns fs k = pourOk (doR ns fs k) (fs.getD (k * 2) 0) (fs.getD (k * 2 + 1) 0) := rfl
      rw [EC] at YES NO
      clear EC
      have R24 := pourR_len C24.out (fs.getD (k * 2) 0) (fs.getD (k * 2 + 1) 0)
      have PV := Lib.hid (fun h => (pour_facts C24.out (i := fs.getD (k * 2) 0) (j := fs.getD (k * 2 + 1) 0) h).valid)
      generalize fs.getD (k * 2) 0 = x at *
      generalize fs.getD (k * 2 + 1) 0 = y at *
      generalize doR ns fs k = C at *
      have RG := Lib.hid (range_two (C0.out wr (kept_refl wr)) (C1.out wr (kept_refl wr)))
      have hP2 : ([x, y] : List Int).length = 2 := rfl
      have hc24 := C24.out
      have hgb := hgw g rfl
      have B8 := Has.box (ns := [x, y]) (n := 2) wr 44 rfl (by omega)
      have cc0 := B8.cell 0 (by omega)
      have cc1 := B8.cell 1 (by omega)
      rw [List.getD_cons_zero] at cc0
      rw [List.getD_cons_succ, List.getD_cons_zero] at cc1
      replace G1 := G1.alloc (.cells (ints [x, y]).toArray 44)
      replace GR := Lib.hid (GR.out.alloc (.cells (ints [x, y]).toArray 44))
      replace GU := Lib.hid (GU.out.alloc (.cells (ints [x, y]).toArray 44))
      replace GB := Lib.hid (GB.out.alloc (.cells (ints [x, y]).toArray 44))
      clear C0 C1
      go_wp2_with (first | (refine wpList_load_mid rfl 44 _ rfl g (k * 2) rfl (ints [x, y]) _ RG.out Try.underlying44 rfl (by kernel_rfl) ?_) | (refine store_new rfl 44 _ _ rfl _ _ _ rfl _ rfl _ rfl rfl ?_ ?_ ?_; (· (first | assumption | rfl)); (· kernel_rfl)) | (refine load_has rfl 27 _ rfl _ rfl ?_ 24 ?_ _ Try.underlying27 rfl ?_ ?_; rotate_left; (· (repeat (first | (with_reducible assumption) | ((with_reducible refine Has.box _ _ ?_ ?_) <;> (first | assumption | decide)) | (with_reducible refine Has.alloc ?_ _) | ((with_reducible refine Has.putOther ?_ _ _ ?_); rotate_left; omega; skip) | ((with_reducible refine Has.below ?_ ?_); rotate_left; assumption)))); (· kernel_rfl)))
      refine (implPour C x y _ hc24).mono ?_
      rintro e w3 ⟨rfl, b3⟩
      have F9 := Has.box w3 27 R24 (by omega)
      have lGb := (G1.below b3).lt
      have owu0 := Lib.hid (fun z hz => ((GU.out.below b3).own z hz).2)
      replace G1 := (G1.below b3).alloc (.cells (ints (pourR C x y)).toArray 27)
      replace GR := Lib.hid ((GR.out.below b3).alloc (.cells (ints (pourR C x y)).toArray 27))
      replace GU := Lib.hid ((GU.out.below b3).alloc (.cells (ints (pourR C x y)).toArray 27))
      replace GB := Lib.hid ((GB.out.call b3).alloc (.cells (ints (pourR C x y)).toArray 27))
      clear b3 cc0 cc1 RG B8
      by_cases hp : pourOk C x y = true
      · have SN := Lib.hid (YES.out hp)
        have RV := Lib.hid (PV.out hp)
        rw [hp]
        clear hp YES NO
        generalize pourR C x y = R at *
        go_wp2_with (first | (refine store_new rfl 27 _ _ rfl _ _ _ rfl _ rfl _ rfl rfl ?_ ?_ ?_; (· (first | assumption | rfl)); (· kernel_rfl)) | (refine load_has rfl 27 _ rfl _ rfl ?_ 24 ?_ _ Try.underlying27 rfl ?_ ?_; rotate_left; (· (repeat (first | (with_reducible assumption) | ((with_reducible refine Has.box _ _ ?_ ?_) <;> (first | assumption | decide)) | (with_reducible refine Has.alloc ?_ _) | ((with_reducible refine Has.putOther ?_ _ _ ?_); rotate_left; omega; skip) | ((with_reducible refine Has.below ?_ ?_); rotate_left; assumption)))); (· kernel_rfl)))
        refine (implBound R _ R24).mono ?_
        rintro e w5 ⟨rfl, b5⟩
        replace F9 := F9.below b5
        replace G1 := G1.below b5
        replace GR := Lib.hid (GR.out.below b5)
        replace GU := Lib.hid (GU.out.below b5)
        replace GB := Lib.hid (GB.out.call b5)
        have hbs := GB.out.size
        have l9 := F9.lt
        have owu := Lib.hid (fun z hz => (GU.out.own z hz))
        clear b5
        generalize hB : bndA R = bR at *
        have HBR := Lib.hid hB
        clear hB
        have ne9 : Hid (∀ z, u8.ownBlock = some z → z ≠ w3.heap.size) := Lib.hid (fun z hz e => by have := owu0.out z hz; omega)
        go_upto_region 12 with (first | (at_builtin; refine wpList_append_own _ rfl _ _ 40 rfl (w.heap.size + 1) 3 i0 (.int .i64 0) 1 8 Try.underlying40 hi hz0 hz1 hz2 rfl (by decide) _ (k + 1) (ints (alUp ns fs k)) rfl (World.ownsRow.alloc GU.out _) ⟨w5.heap.size, 0, none⟩ 1 1 [.int .i64 bR] rfl rfl (cell_one_new _ _ _) (fun x hx => by simp at hx; subst hx; rfl) (by unfold maxLen; omega) (by omega) (by simp; omega) ?_; intro v' w6 hown' hgrow3 hnil3))
        have V2 : Hid (vR (doR ns fs (k + 1)) = true) := Lib.hid (by rw [ER.out]; exact RV.out)
        have L9 := (F9.alloc (.cells #[.int .i64 bR] 3)).grownNe hgrow3 (fun e => ne9.out _ e.symm rfl)
        have F1 := (G1.alloc (.cells #[.int .i64 bR] 3)).grown hgrow3 (fun j hj => (owu.out j hj).1)
        have F2 := Lib.hid ((GR.out.alloc (.cells #[.int .i64 bR] 3)).grownP hgrow3 (fun _ j hj => .inr (fun e => by have h1 := (owu.out j hj).1; have h2 := hgb; simp only [Value.ownBlock, Option.some.injEq] at e; omega)))
        have F3 := Lib.hid (show Kept w w6 from (GB.out.alloc (.cells #[.int .i64 bR] 3)).grown hgrow3 (by rw [size1]; omega) (fun j hj => by have := (owu.out j hj).1; omega))
        have F4 : Hid (Nu w6 (w.heap.size + 1) v' (k + 1 + 1) (alUp ns fs (k + 1))) := Lib.hid (by rw [EA.out, ER.out, HBR.out]; unfold Nu; rw [ints_app]; exact hown')
        have M1 : Hid (Has (w6.setCells w.heap.size 0 (ints R)) w.heap.size (doR ns fs (k + 1)) 24) := Lib.hid (by rw [ER.out]; exact F1.putAll R R24)
        have M2 := Lib.hid (F2.out.puts w.heap.size 0 (ints R) (fun _ e => by simp only [Value.ownBlock, Option.some.injEq] at e; omega))
        have M4 := Lib.hid (F4.out.aside w.heap.size 0 (ints R) (fun z hz e => by have := (F4.out.own z hz).1; omega))
        have M3 := Lib.hid (F3.out.puts (b := w.heap.size) (Nat.le_refl _) 0 (ints R))
        clear hown' hgrow3 hnil3 F2 F3 F4 owu G1 F9 GR GU GB
        go_wp2_with (first | (refine load_has rfl 27 _ rfl _ rfl ?_ 24 ?_ _ Try.underlying27 rfl ?_ ?_; rotate_left; (· (repeat (first | (with_reducible assumption) | ((with_reducible refine Has.box _ _ ?_ ?_) <;> (first | assumption | decide)) | (with_reducible refine Has.alloc ?_ _) | ((with_reducible refine Has.putOther ?_ _ _ ?_); rotate_left; omega; skip) | ((with_reducible refine Has.below ?_ ?_); rotate_left; assumption)))); (· kernel_rfl)) | (refine store_at rfl 27 _ _ rfl _ _ rfl rfl ?_ 24 ?_ ?_ ?_ ?_; rotate_left; (· (repeat (first | (with_reducible assumption) | ((with_reducible refine Has.box _ _ ?_ ?_) <;> (first | assumption | decide)) | (with_reducible refine Has.alloc ?_ _) | ((with_reducible refine Has.putOther ?_ _ _ ?_); rotate_left; omega; skip) | ((with_reducible refine Has.below ?_ ?_); rotate_left; assumption)))); (· (first | assumption | rfl)); (· kernel_rfl)))
        go_roundw
        case rel => exact ⟨k + 1, by omega, by go_num, ⟨_, rfl⟩, M1.out, M2, M4, M3, V2, SN⟩
        case measure => simp [intOf]; omega
      · have hf : pourOk C x y = false := by simpa using hp
        have Z := Lib.hid (NO.out hf)
        rw [hf]
        clear hf hp
        generalize pourR C x y = R at *
        go_wp2_with (first | (refine store_new rfl 27 _ _ rfl _ _ _ rfl _ rfl _ rfl rfl ?_ ?_ ?_; (· (first | assumption | rfl)); (· kernel_rfl)))
        go_ret2
        exact ⟨_, by rw [E.out]; rfl, by rw [Z.out.1, Z.out.2]; exact GU.out, GB.out⟩
    · obtain rfl : k = n := by omega
      have Z := Lib.hid (along_yes E.out ST.out)
      go_wp2_with fail
      go_ret2
      exact ⟨_, by rw [E.out]; rfl, by rw [Z.out.1, Z.out.2]; exact GU.out, GB.out⟩
end Go.Proofs.Ytmhkjakgdfadbab.base
