/-
  Which pours are undone, on the program's side, walked.
-/
import Derived.Test.YthnkfdhnbafcjabUndP
namespace Go.Proofs.Ythnkfdhnbafcjab.base
open Go.ChangeShapes Go.WideShapes Go.ChangeAt Go.RowKit
set_option linter.unusedVariables false
set_option linter.unusedSimpArgs false

set_option maxHeartbeats 1600000 in
set_option maxRecDepth 100000 in
theorem implUndone (ns : List Int) (w : World) (h24 : ns.length = 24) :
    Calls Try.prog 10 #[row ns] w (UndnPost ns w) := by
  obtain ⟨i0, hi, hz0, hz1, hz2⟩ := info_parts infoPair
  have HB := Lib.hid ((kept_refl w).alloc (.cells (ints ns).toArray 29))
  have H := Has.box w 29 h24 (by omega)
  rw [row_ints]
  go_enter Try.func10, Try.ntmps10
  go_wp2_with (refine load_has rfl 29 _ rfl _ rfl ?_ 24 ?_ _ Try.underlying29 rfl ?_ ?_; rotate_left; (· (repeat (first | (with_reducible assumption) | ((with_reducible refine Has.box _ _ ?_ ?_) <;> (first | assumption | decide)) | (with_reducible refine Has.alloc ?_ _) | ((with_reducible refine Has.putOther ?_ _ _ ?_); rotate_left; omega; skip) | ((with_reducible refine Has.below ?_ ?_); rotate_left; assumption)))); (· kernel_rfl))
  refine (implPours ns _ h24).mono ?_
  rintro e w1 ⟨pv, rfl, q1, b1⟩
  have hH := (H.below b1).lt
  have H1 := (H.below b1).alloc (.cells #[] 52)
  have HB0 := HB.out.call b1
  have HB1 := Lib.hid (HB0.alloc (.cells #[] 52))
  have P2 := Lib.hid (Prs.none w1 (w.heap.size + 1) (by omega))
  have AP : Hid (∀ z, (Value.slice (some ⟨w1.heap.size, 0, none⟩) 0 0).ownBlock = some z → pv.ownBlock ≠ some z) := Lib.hid (fun z hz e => by
    have := (World.ownsRow.lt q1 z e).2
    simp only [Value.ownBlock, Option.some.injEq] at hz
    omega)
  have q2 := (q1.alloc (.cells #[] 52)).mono (b' := w.heap.size) HB.out.size
  have H24 := Lib.hid h24
  by_cases hv : vR ns = true
  · have HV := Lib.hid hv
    have E1 := Lib.hid (show undnNA ns = undnN ns (poursN ns 36) by unfold undnNA; rw [if_pos hv])
    have E2 := Lib.hid (show undnFA ns = undnF ns (poursN ns 36) by unfold undnFA; rw [if_pos hv])
    rw [show poursNA ns = poursN ns 36 by unfold poursNA; rw [if_pos hv], show poursFA ns = poursF ns 36 by unfold poursFA; rw [if_pos hv]] at q2
    have P3 : Hid (Prs (w1.alloc (.cells #[] 52)) (w.heap.size + 1) (.slice (some ⟨w1.heap.size, 0, none⟩) 0 0) (undnN ns 0) (undnF ns 0)) := Lib.hid (by rw [(undn0 ns).1, (undn0 ns).2]; exact P2.out)
    rw [hv]
    obtain ⟨a, cap, rfl⟩ : ∃ a cap, pv = .slice a (poursN ns 36) cap := by
      rcases q2.2 with ⟨h0, h1⟩ | ⟨g, cap, cur, h0, _⟩
      · exact ⟨_, _, by rw [h1]; exact h0⟩
      · exact ⟨_, _, h0⟩
    have Q1 := Lib.hid q2
    clear H HB P2 q1 q2 b1 h24 hv HB0 hH
    have hN := poursN_le ns 36
    go_wp2_with fail
    go_loopw [6, 19] (fun u i wr => ∃ k : Nat, k ≤ poursN ns 36 ∧ i = .int .i64 k ∧ Has wr w.heap.size ns 24 ∧ Hid (Prs wr (w.heap.size + 1) u (undnN ns k) (undnF ns k)) ∧ Hid (Prs wr w.heap.size (.slice a (poursN ns 36) cap) (poursN ns 36) (poursF ns 36)) ∧ Hid (∀ z, u.ownBlock = some z → (Value.slice a (poursN ns 36) cap).ownBlock ≠ some z) ∧ Hid (Kept w wr)) (fun _ z _ => poursN ns 36 - (intOf z).toNat)
    case atStart => exact ⟨0, by omega, rfl, H1, P3, Q1, AP, HB1⟩
    case round =>
      obtain ⟨k, hk, rfl, G1, GU, GQ, GA, GB⟩ := hrel
      by_cases hkn : k < poursN ns 36
      · have ki : (k : Int) < ((poursN ns 36 : Nat) : Int) := by omega
        have k0 : (0 : Int) ≤ (k : Int) := by omega
        obtain ⟨g, cap2, hv', _, _⟩ := GQ.out.form (by omega)
        injection hv' with ha _ hcap
        subst ha
        subst hcap
        obtain ⟨p6, q6, hc, f1, f2⟩ := pour_u ns k hkn
        have hU := undnN_le ns k
        have rg1 : wr.cell? ⟨g, k * 2, none⟩ = some (.int .i64 (fstU ns k : Int)) := by rw [← f1]; exact GQ.out.cell (k * 2) (by omega)
        have rg2 : wr.cell? ⟨g, k * 2 + 1, none⟩ = some (.int .i64 (sndU ns k : Int)) := by rw [← f2]; exact GQ.out.cell (k * 2 + 1) (by omega)
        have RG : Hid (wr.rangeAt g (k * 2) (ints [(fstU ns k : Int), (sndU ns k : Int)])) := Lib.hid (range_twoU rg1 rg2)
        clear rg1 rg2 f1 f2 hc
        have hP2 : ([(fstU ns k : Int), (sndU ns k : Int)] : List Int).length = 2 := rfl
        have B8 := Has.box (ns := [(fstU ns k : Int), (sndU ns k : Int)]) (n := 2) wr 52 rfl (by omega)
        have G2 := G1.alloc (.cells (ints [(fstU ns k : Int), (sndU ns k : Int)]).toArray 52)
        have GU2 := Lib.hid (GU.out.alloc (.cells (ints [(fstU ns k : Int), (sndU ns k : Int)]).toArray 52))
        have GQ2 := Lib.hid (GQ.out.alloc (.cells (ints [(fstU ns k : Int), (sndU ns k : Int)]).toArray 52))
        have GB2 := Lib.hid (GB.out.alloc (.cells (ints [(fstU ns k : Int), (sndU ns k : Int)]).toArray 52))
        clear G1 GU GQ GB
        have cc0 := B8.cell 0 (by omega)
        have cc1 := B8.cell 1 (by omega)
        rw [List.getD_cons_zero] at cc0
        rw [List.getD_cons_succ, List.getD_cons_zero] at cc1
        go_wp2_with (first | (refine wpList_load_mid rfl 52 _ rfl g (k * 2) rfl (ints [(fstU ns k : Int), (sndU ns k : Int)]) _ RG.out Try.underlying52 rfl (by kernel_rfl) ?_) | (refine store_new rfl 52 _ _ rfl _ _ _ rfl _ rfl _ rfl rfl ?_ ?_ ?_; (· (first | assumption | rfl)); (· kernel_rfl)) | (refine load_has rfl 29 _ rfl _ rfl ?_ 24 ?_ _ Try.underlying29 rfl ?_ ?_; rotate_left; (· (repeat (first | (with_reducible assumption) | ((with_reducible refine Has.box _ _ ?_ ?_) <;> (first | assumption | decide)) | (with_reducible refine Has.alloc ?_ _) | ((with_reducible refine Has.putOther ?_ _ _ ?_); rotate_left; omega; skip) | ((with_reducible refine Has.below ?_ ?_); rotate_left; assumption)))); (· kernel_rfl)))
        clear RG
        refine (implIsUndone ns (fstU ns k : Int) (sndU ns k : Int) _ H24.out).mono ?_
        rintro e w2 ⟨rfl, b2⟩
        have K1 := G2.below b2
        have K8 := B8.below b2
        have KU := Lib.hid (GU2.out.below b2)
        have KQ := Lib.hid (GQ2.out.below b2)
        have KB := Lib.hid (GB2.out.call b2)
        clear G2 B8 GU2 GQ2 GB2 b2 cc0 cc1
        generalize wr.heap.size = b8 at *
        by_cases hid : udl ns (fstU ns k) (sndU ns k) = true
        · obtain ⟨Y, Y2⟩ := undn_no hid
          have B2 := Lib.hid (show Prs w2 (w.heap.size + 1) u6 (undnN ns (k + 1)) (undnF ns (k + 1)) by rw [Y, Y2]; exact KU.out)
          rw [show undB ns (fstU ns k : Int) (sndU ns k : Int) = false by unfold udl at hid; simpa using hid]
          clear hid Y Y2
          go_wp2_with fail
          go_roundw
          case rel => exact ⟨k + 1, by omega, by go_num, K1, B2, KQ, GA, KB⟩
          case measure => simp [intOf]; omega
        · have hf : udl ns (fstU ns k) (sndU ns k) = false := by simpa using hid
          obtain ⟨Y, Y2⟩ := undn_yes hf
          have HY := Lib.hid Y
          have HY2 := Lib.hid Y2
          rw [show undB ns (fstU ns k : Int) (sndU ns k : Int) = true by unfold udl at hf; simpa using hf]
          have rg1 : w2.cell? ⟨b8, 0, none⟩ = some (.int .i64 (fstU ns k : Int)) := K8.cell 0 (by omega)
          have rg2 : w2.cell? ⟨b8, 0 + 1, none⟩ = some (.int .i64 (sndU ns k : Int)) := K8.cell 1 (by omega)
          have RG := Lib.hid (range_twoU rg1 rg2)
          have hbs := KB.out.size
          clear hid hf Y Y2 rg1 rg2
          go_wp2_with (first | (refine wpList_load_mid rfl 52 _ rfl b8 0 rfl [.int .i64 (fstU ns k : Int), .int .i64 (sndU ns k : Int)] _ RG.out Try.underlying52 rfl (by kernel_rfl) ?_) | (at_builtin; refine wpList_append_lies _ rfl _ _ 26 rfl (w.heap.size + 1) 52 i0 (.agg #[.int .i64 0, .int .i64 0]) 2 16 Try.underlying26 hi hz0 hz1 hz2 rfl (by decide) _ (undnN ns k) (ints (undnF ns k)) rfl (World.ownsRow.alloc KU.out _) ⟨w2.heap.size, 0, none⟩ 1 1 [.int .i64 (fstU ns k : Int), .int .i64 (sndU ns k : Int)] rfl rfl (cell_two_new _ _ _ _) (fun x hx => by simp at hx; rcases hx with rfl | rfl <;> rfl) (by decide) (by unfold maxLen; omega) (by omega) (by simp; omega) _ rfl ?_; intro g' cap' w3 hown' hgrow3 hlie hlt3))
          obtain ⟨A2, A3⟩ := prs_app KU.out KB.out (Nat.le_refl _) hown' hgrow3
          have A1 := (K1.alloc (.cells #[.int .i64 (fstU ns k : Int), .int .i64 (sndU ns k : Int)] 52)).grown hgrow3 (Prs.own KU.out)
          have A0 := Lib.hid ((KQ.out.alloc (.cells #[.int .i64 (fstU ns k : Int), .int .i64 (sndU ns k : Int)] 52)).apartU hgrow3 (fun z hz => GA.out z hz))
          have GA2 : Hid (∀ z, (Value.slice (some ⟨g', 0, none⟩) (undnN ns k + 1) cap').ownBlock = some z → (Value.slice (some ⟨g, 0, none⟩) (poursN ns 36) cap).ownBlock ≠ some z) := Lib.hid (fun z hz e => by
            simp only [Value.ownBlock, Option.some.injEq] at hz
            subst hz
            rcases hlie with h1 | h1
            · exact GA.out _ h1 e
            · have := (World.ownsRow.lt KQ.out _ e).2
              rw [size1] at h1; omega)
          rw [← HY.out, ← HY2.out] at A2
          have B2 := Lib.hid A2
          have B3 : Hid (Kept w w3) := Lib.hid A3
          clear hown' hgrow3 hlie hlt3 A2 A3
          go_wp2_with fail
          go_roundw
          case rel => exact ⟨k + 1, by omega, by go_num, A1, by rw [← HY2.out]; exact B2, A0, by rw [← HY2.out]; rw [← HY2.out] at GA2; exact GA2, B3⟩
          case measure => simp [intOf]; omega
      · obtain rfl : k = poursN ns 36 := by omega
        go_wp2_with fail
        go_ret2
        exact ⟨_, by rw [HV.out]; rfl, by rw [E1.out, E2.out]; exact GU.out.mono (by omega), GB.out⟩
  · have hf : vR ns = false := by simpa using hv
    have E1 := Lib.hid (show undnNA ns = 0 by unfold undnNA; rw [if_neg hv])
    have E2 := Lib.hid (show undnFA ns = [] by unfold undnFA; rw [if_neg hv])
    rw [hf]
    have HV := Lib.hid hf
    clear hf hv
    rw [show poursNA ns = 0 by unfold poursNA; rw [HV.out]; rfl, show poursFA ns = [] by unfold poursFA; rw [HV.out]; rfl] at q2
    obtain ⟨a, cap, rfl⟩ : ∃ a cap, pv = .slice a 0 cap := by
      rcases q2.2 with ⟨h0, _⟩ | ⟨g, cap, cur, h0, _⟩
      · exact ⟨_, _, h0⟩
      · exact ⟨_, _, h0⟩
    clear q1 q2 AP b1 H
    go_wp2_with fail
    go_loopw [6, 19] (fun u i wr => u = .slice (some ⟨w1.heap.size, 0, none⟩) 0 0 ∧ i = .int .i64 0 ∧ wr = w1.alloc (.cells #[] 52)) (fun _ _ _ => 0)
    case atStart => exact ⟨rfl, rfl, rfl⟩
    case round =>
      obtain ⟨rfl, rfl, rfl⟩ := hrel
      go_wp2_with fail
      go_ret2
      exact ⟨_, by rw [HV.out]; rfl, by rw [E1.out, E2.out]; exact P2.out.mono (by omega), HB1.out⟩
end Go.Proofs.Ythnkfdhnbafcjab.base
