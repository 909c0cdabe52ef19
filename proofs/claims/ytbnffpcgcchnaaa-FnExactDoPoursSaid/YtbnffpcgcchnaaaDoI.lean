/-
  Pours of a list, walked on the program's side.
-/
import Derived.Test.YtbnffpcgcchnaaaDoS
import Derived.Test.YtbnffpcgcchnaaaPourI
namespace Go.Proofs.Ytbnffpcgcchnaaa.base
open Go.ChangeShapes Go.WideShapes Go.ChangeAt Go.RowKit
set_option linter.unusedVariables false
set_option linter.unusedSimpArgs false

set_option maxHeartbeats 3200000 in
set_option maxRecDepth 100000 in
theorem implDo (ns fs : List Int) (v : Value) (n b : Nat) (w : World) (h24 : ns.length = 24) (hn : n ≤ 1048576) (h : Prs w b v n fs) :
    Calls Try.prog 27 #[row ns, v] w fun e w' => e = .returned (.tuple #[.agg (ints (doRA ns fs n)).toArray, .int .i64 (doMA ns fs n), .bool (doOk ns fs n)]) ∧ Kept w w' := by
  have HB := Lib.hid (((kept_refl w).alloc (.cells (ints ns).toArray 28)).alloc (.cells #[.int .i64 0, .int .i64 0, .int .i64 0, .int .i64 0, .int .i64 0, .int .i64 0, .int .i64 0, .int .i64 0, .int .i64 0, .int .i64 0, .int .i64 0, .int .i64 0, .int .i64 0, .int .i64 0, .int .i64 0, .int .i64 0, .int .i64 0, .int .i64 0, .int .i64 0, .int .i64 0, .int .i64 0, .int .i64 0, .int .i64 0, .int .i64 0] 28))
  have H := (Has.box w 28 h24 (by omega)).alloc (.cells #[.int .i64 0, .int .i64 0, .int .i64 0, .int .i64 0, .int .i64 0, .int .i64 0, .int .i64 0, .int .i64 0, .int .i64 0, .int .i64 0, .int .i64 0, .int .i64 0, .int .i64 0, .int .i64 0, .int .i64 0, .int .i64 0, .int .i64 0, .int .i64 0, .int .i64 0, .int .i64 0, .int .i64 0, .int .i64 0, .int .i64 0, .int .i64 0] 28)
  have Z := (Has.zero24 (w.alloc (.cells (ints ns).toArray 28)) 28).at (size1 _ _)
  have hz : z24.length = 24 := rfl
  have HP := Lib.hid ((h.alloc (.cells (ints ns).toArray 28)).alloc (.cells #[.int .i64 0, .int .i64 0, .int .i64 0, .int .i64 0, .int .i64 0, .int .i64 0, .int .i64 0, .int .i64 0, .int .i64 0, .int .i64 0, .int .i64 0, .int .i64 0, .int .i64 0, .int .i64 0, .int .i64 0, .int .i64 0, .int .i64 0, .int .i64 0, .int .i64 0, .int .i64 0, .int .i64 0, .int .i64 0, .int .i64 0, .int .i64 0] 28))
  have AP := Lib.hid (fun k hk => (World.ownsRow.lt h k hk).2)
  obtain ⟨a, cap, rfl⟩ := prs_slice h
  clear h
  rw [row_ints]
  go_enter Try.func27, Try.ntmps27
  go_wp2_with (refine load_has rfl 28 _ rfl _ rfl ?_ 24 ?_ _ Try.underlying28 rfl ?_ ?_; rotate_left; (· (repeat (first | (with_reducible assumption) | ((with_reducible refine Has.box _ _ ?_ ?_) <;> (first | assumption | decide)) | (with_reducible refine Has.alloc ?_ _) | ((with_reducible refine Has.putOther ?_ _ _ ?_); rotate_left; omega; skip) | ((with_reducible refine Has.below ?_ ?_); rotate_left; assumption)))); (· kernel_rfl))
  refine (isRack_any ns _ h24).mono ?_
  rintro e w1 ⟨rfl, b1⟩
  have H1 := H.below b1
  have Z1 := Z.below b1
  have HP1 := Lib.hid (HP.out.below b1)
  have HB1 := Lib.hid (HB.out.call b1)
  clear H Z HP HB b1
  by_cases hv : vR ns = true
  · have O0 : Hid (doOk ns fs 0 = true) := Lib.hid hv
    rw [hv]
    have HL := Lib.hid (doR_len h24 fs)
    clear hv
    go_wp2_with fail
    go_loopw [7, 19] (fun m i wr => ∃ k : Nat, k ≤ n ∧ i = .int .i64 k ∧ m = .int .i64 (doM ns fs k) ∧ Has wr w.heap.size (doR ns fs k) 24 ∧ Has wr (w.heap.size + 1) z24 24 ∧ Hid (Prs wr b (.slice a n cap) n fs) ∧ Hid (Kept w wr) ∧ Hid (doOk ns fs k = true)) (fun _ i _ => n - (intOf i).toNat)
    case atStart => exact ⟨0, by omega, rfl, rfl, H1, Z1, HP1, HB1, O0⟩
    case round =>
      obtain ⟨k, hk, rfl, rfl, G1, G2, GP, GB, GO⟩ := hrel
      have hm := doM_small ns fs k
      by_cases hlt : k < n
      · have ki : (k : Int) < ((n : Nat) : Int) := by omega
        have k0 : (0 : Int) ≤ (k : Int) := by omega
        obtain ⟨g, cap2, hv', _, _⟩ := GP.out.form (by omega)
        injection hv' with ha _ hcap
        subst ha
        subst hcap
        have hR := HL.out k
        have hgw := AP.out g rfl
        have C0 := Lib.hid (fun (w' : World) (h : Prs w' b (.slice (some ⟨g, 0, none⟩) n cap) n fs) => h.cell (k * 2) (by omega))
        have C1 := Lib.hid (fun (w' : World) (h : Prs w' b (.slice (some ⟨g, 0, none⟩) n cap) n fs) => h.cell (k * 2 + 1) (by omega))
        have ER := Lib.hid (show doR ns fs (k + 1) = pourR (doR ns fs k) (fs.getD (k * 2) 0) (fs.getD (k * 2 + 1) 0) from rfl)
        have EM := Lib.hid (show doM ns fs (k + 1) = doM ns fs k + pourA (doR ns fs k) (fs.getD (k * 2) 0) (fs.getD (k * 2 + 1) 0) from rfl)
        have EO := Lib.hid (show doOk ns fs (k + 1) = (doOk ns fs k && pourOk (doR ns fs k) (fs.getD (k * 2) 0) (fs.getD (k * 2 + 1) 0)) from rfl)
        have hA := pourA_small (doR ns fs k) (fs.getD (k * 2) 0) (fs.getD (k * 2 + 1) 0)
        have hl2 := pourR_len hR (fs.getD (k * 2) 0) (fs.getD (k * 2 + 1) 0)
        generalize fs.getD (k * 2) 0 = x at *
        generalize fs.getD (k * 2 + 1) 0 = y at *
        generalize doR ns fs k = R at *
        generalize doM ns fs k = M at *
        have r0 := C0.out wr GP.out
        have r1 := C1.out wr GP.out
        have RG := Lib.hid (range_two r0 r1)
        have hP2 : ([x, y] : List Int).length = 2 := rfl
        have B8 := Has.box (ns := [x, y]) (n := 2) wr 82 rfl (by omega)
        have F1 := G1.alloc (.cells (ints [x, y]).toArray 82)
        have F2 := G2.alloc (.cells (ints [x, y]).toArray 82)
        have FP := Lib.hid (GP.out.alloc (.cells (ints [x, y]).toArray 82))
        have FB := Lib.hid (GB.out.alloc (.cells (ints [x, y]).toArray 82))
        have cc0 := B8.cell 0 (by omega)
        have cc1 := B8.cell 1 (by omega)
        rw [List.getD_cons_zero] at cc0
        rw [List.getD_cons_succ, List.getD_cons_zero] at cc1
        have h1 := F1.lt
        have h2 := F2.lt
        clear r0 r1 G1 G2 GP GB C0 C1 B8
        go_wp2_with (first | (refine wpList_load_mid rfl 82 _ rfl g (k * 2) rfl (ints [x, y]) _ RG.out Try.underlying82 rfl (by kernel_rfl) ?_) | (refine store_new rfl 82 _ _ rfl _ _ _ rfl _ rfl _ rfl rfl ?_ ?_ ?_; (· (first | assumption | rfl)); (· kernel_rfl)) | (refine load_has rfl 28 _ rfl _ rfl ?_ 24 ?_ _ Try.underlying28 rfl ?_ ?_; rotate_left; (· (repeat (first | (with_reducible assumption) | ((with_reducible refine Has.box _ _ ?_ ?_) <;> (first | assumption | decide)) | (with_reducible refine Has.alloc ?_ _) | ((with_reducible refine Has.putOther ?_ _ _ ?_); rotate_left; omega; skip) | ((with_reducible refine Has.below ?_ ?_); rotate_left; assumption)))); (· kernel_rfl)))
        refine (implPour R x y _ hR).mono ?_
        rintro e w2 ⟨rfl, b2⟩
        have h3 := (F1.below b2).lt
        have h4 := (F2.below b2).lt
        have F9 := Has.box (ns := pourR R x y) w2 28 hl2 (by omega)
        have F1 := (F1.below b2).alloc (.cells (ints (pourR R x y)).toArray 28)
        have F2 := (F2.below b2).alloc (.cells (ints (pourR R x y)).toArray 28)
        have KP := Lib.hid ((FP.out.below b2).alloc (.cells (ints (pourR R x y)).toArray 28))
        have KB := Lib.hid ((FB.out.call b2).alloc (.cells (ints (pourR R x y)).toArray 28))
        clear FP FB cc0 cc1 RG b2
        by_cases hp : pourOk R x y = true
        · have GO2 : Hid (doOk ns fs (k + 1) = true) := Lib.hid (by rw [EO.out, GO.out, hp]; rfl)
          rw [hp]
          have N1 := Has.is (F1.putAll (pourR R x y) hl2) ER.out.symm
          have N2 := F2.putOther (b' := w.heap.size) 0 (ints (pourR R x y)) (by omega)
          have NP := Lib.hid (KP.out.puts w.heap.size 0 (ints (pourR R x y)) (fun k hk => by simp only [Value.ownBlock, Option.some.injEq] at hk; omega))
          have NB := Lib.hid (KB.out.puts (b := w.heap.size) (Nat.le_refl _) 0 (ints (pourR R x y)))
          clear hp
          go_wp2_with (first | (refine store_new rfl 28 _ _ rfl _ _ _ rfl _ rfl _ rfl rfl ?_ ?_ ?_; (· (first | assumption | rfl)); (· kernel_rfl)) | (refine load_has rfl 28 _ rfl _ rfl ?_ 24 ?_ _ Try.underlying28 rfl ?_ ?_; rotate_left; (· (repeat (first | (with_reducible assumption) | ((with_reducible refine Has.box _ _ ?_ ?_) <;> (first | assumption | decide)) | (with_reducible refine Has.alloc ?_ _) | ((with_reducible refine Has.putOther ?_ _ _ ?_); rotate_left; omega; skip) | ((with_reducible refine Has.below ?_ ?_); rotate_left; assumption)))); (· kernel_rfl)) | (refine store_at rfl 28 _ _ rfl _ _ rfl rfl ?_ 24 ?_ ?_ ?_ ?_; rotate_left; (· (repeat (first | (with_reducible assumption) | ((with_reducible refine Has.box _ _ ?_ ?_) <;> (first | assumption | decide)) | (with_reducible refine Has.alloc ?_ _) | ((with_reducible refine Has.putOther ?_ _ _ ?_); rotate_left; omega; skip) | ((with_reducible refine Has.below ?_ ?_); rotate_left; assumption)))); (· (first | assumption | rfl)); (· kernel_rfl)))
          go_roundw
          case rel => exact ⟨k + 1, by omega, by go_num, by rw [EM.out], N1, N2, NP, NB, GO2⟩
          case measure => simp [intOf]; omega
        · have hf : pourOk R x y = false := by simpa using hp
          have D := Lib.hid (do_no (ns := ns) (fs := fs) (k := k + 1) (n := n) (by rw [EO.out, hf, Bool.and_false]) (by omega))
          rw [hf]
          have S1 := Lib.hid (F2.putAll z24 rfl)
          have S2 := Lib.hid (KB.out.puts (b := w.heap.size + 1) (by omega) 0 (ints z24))
          clear hf hp
          go_wp2_with (first | (refine store_new rfl 28 _ _ rfl _ _ _ rfl _ rfl _ rfl rfl ?_ ?_ ?_; (· (first | assumption | rfl)); (· kernel_rfl)) | (refine build_law rfl 28 rfl _ buildRack ?_) | (refine store_at rfl 28 _ _ rfl _ _ rfl rfl ?_ 24 ?_ ?_ ?_ ?_; rotate_left; (· (repeat (first | (with_reducible assumption) | ((with_reducible refine Has.box _ _ ?_ ?_) <;> (first | assumption | decide)) | (with_reducible refine Has.alloc ?_ _) | ((with_reducible refine Has.putOther ?_ _ _ ?_); rotate_left; omega; skip) | ((with_reducible refine Has.below ?_ ?_); rotate_left; assumption)))); (· (first | assumption | rfl)); (· kernel_rfl)))
          exact bodyPost_ret (res_has2 rfl _ _ (w.heap.size + 1) z24 24 _ (.int .i64 0) (.bool false) rfl rfl rfl S1.out Try.underlying28 rfl (by kernel_rfl)) rfl ⟨by rw [D.out.1, D.out.2.1, D.out.2.2], S2.out⟩
      · obtain rfl : k = n := by omega
        have D := Lib.hid (do_yes GO.out)
        have hR := HL.out k
        have S1 := Lib.hid (G2.putAll (doR ns fs k) hR)
        have S2 := Lib.hid (GB.out.puts (b := w.heap.size + 1) (by omega) 0 (ints (doR ns fs k)))
        generalize doR ns fs k = R at *
        generalize doM ns fs k = M at *
        go_wp2_with (first | (refine load_has rfl 28 _ rfl _ rfl ?_ 24 ?_ _ Try.underlying28 rfl ?_ ?_; rotate_left; (· (repeat (first | (with_reducible assumption) | ((with_reducible refine Has.box _ _ ?_ ?_) <;> (first | assumption | decide)) | (with_reducible refine Has.alloc ?_ _) | ((with_reducible refine Has.putOther ?_ _ _ ?_); rotate_left; omega; skip) | ((with_reducible refine Has.below ?_ ?_); rotate_left; assumption)))); (· kernel_rfl)) | (refine store_at rfl 28 _ _ rfl _ _ rfl rfl ?_ 24 ?_ ?_ ?_ ?_; rotate_left; (· (repeat (first | (with_reducible assumption) | ((with_reducible refine Has.box _ _ ?_ ?_) <;> (first | assumption | decide)) | (with_reducible refine Has.alloc ?_ _) | ((with_reducible refine Has.putOther ?_ _ _ ?_); rotate_left; omega; skip) | ((with_reducible refine Has.below ?_ ?_); rotate_left; assumption)))); (· (first | assumption | rfl)); (· kernel_rfl)))
        exact bodyPost_ret (res_has2 rfl _ _ (w.heap.size + 1) R 24 _ (.int .i64 M) (.bool true) rfl rfl rfl S1.out Try.underlying28 rfl (by kernel_rfl)) rfl ⟨by rw [D.out.1, D.out.2, GO.out], S2.out⟩
  · have hf : vR ns = false := by simpa using hv
    have D := Lib.hid (do_no (ns := ns) (fs := fs) (k := 0) (n := n) hf (Nat.zero_le _))
    rw [hf]
    have S1 := Lib.hid (Z1.putAll z24 rfl)
    have S2 := Lib.hid (HB1.out.puts (b := w.heap.size + 1) (by omega) 0 (ints z24))
    clear hf hv
    go_wp2_with (first | (refine build_law rfl 28 rfl _ buildRack ?_) | (refine store_at rfl 28 _ _ rfl _ _ rfl rfl ?_ 24 ?_ ?_ ?_ ?_; rotate_left; (· (repeat (first | (with_reducible assumption) | ((with_reducible refine Has.box _ _ ?_ ?_) <;> (first | assumption | decide)) | (with_reducible refine Has.alloc ?_ _) | ((with_reducible refine Has.putOther ?_ _ _ ?_); rotate_left; omega; skip) | ((with_reducible refine Has.below ?_ ?_); rotate_left; assumption)))); (· (first | assumption | rfl)); (· kernel_rfl)))
    exact bodyPost_ret (res_has2 rfl _ _ (w.heap.size + 1) z24 24 _ (.int .i64 0) (.bool false) rfl rfl rfl S1.out Try.underlying28 rfl (by kernel_rfl)) rfl ⟨by rw [D.out.1, D.out.2.1, D.out.2.2], S2.out⟩
end Go.Proofs.Ytbnffpcgcchnaaa.base
