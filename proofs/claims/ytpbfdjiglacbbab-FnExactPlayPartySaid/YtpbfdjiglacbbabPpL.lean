/-
  The exact law of PlayParty, walked.
-/
import Derived.Test.YtpbfdjiglacbbabPpS
import Derived.Test.YtpbfdjiglacbbabPairs
import Derived.Test.YtpbfdjiglacbbabPairArg
import Derived.Test.YtpbfdjiglacbbabRackTo
import Derived.Test.YtpbfdjiglacbbabRackOps
import Derived.Test.YtpbfdjiglacbbabRunsIZ
namespace Go.Proofs.Ytpbfdjiglacbbab.base
open Go.ChangeShapes Go.WideShapes Go.ChangeAt Go.RowKit
set_option linter.unusedVariables false
set_option linter.unusedSimpArgs false

set_option maxHeartbeats 400000 in
theorem eqIntA2P (t : List Int) (w : World) (h2 : t.length = 2) :
    Calls Try.prog 21 #[.agg (ints t).toArray, .agg (ints t).toArray] w fun e w' => e = .returned (.bool true) ∧ Kept w w' := by
  have HB := Lib.hid (((kept_refl w).alloc (.cells (ints t).toArray 38)).alloc (.cells (ints t).toArray 38))
  have H1 := (Has.box w 38 h2 (by omega)).alloc (.cells (ints t).toArray 38)
  have H2 := (Has.box (w.alloc (.cells (ints t).toArray 38)) 38 h2 (by omega)).at (size1 _ _)
  go_enter Try.func21, Try.ntmps21
  go_wp2_with fail
  have HL := Lib.hid h2
  clear h2
  generalize ((w.alloc (.cells (ints t).toArray 38)).alloc (.cells (ints t).toArray 38)) = W at *
  go_loopw [5] (fun z wr => ∃ k : Nat, k ≤ 2 ∧ z = .int .i64 k ∧ Has wr w.heap.size t 2 ∧ Has wr (w.heap.size + 1) t 2 ∧ Hid (Kept w wr)) (fun z _ => 2 - (intOf z).toNat)
  case atStart => exact ⟨0, by omega, rfl, H1, H2, HB⟩
  case round =>
    obtain ⟨k, hk, rfl, G1, G2, GB⟩ := hrel
    by_cases h : k < 2
    · have c1 := G1.cell k h
      have c2 := G2.cell k h
      have hki : (k : Int) < 2 := by omega
      have hk0 : (0 : Int) ≤ (k : Int) := by omega
      generalize t.getD k 0 = x at *
      go_wp2_with fail
      go_quiet (fail)
      have G3 := G1.drewN nq
      have G4 := G2.drewN nq
      have GB2 := Lib.hid (GB.out.drewN nq)
      go_wp2_with fail
      go_roundw
      case rel => exact ⟨k + 1, by omega, by go_num, G3, G4, GB2⟩
      case measure => simp [intOf]; omega
    · go_wp2_with fail
      go_ret
      exact ⟨rfl, GB.out⟩

set_option maxHeartbeats 3200000 in
set_option maxRecDepth 100000 in
theorem lawPlayParty (ns : List Int) (a : Option Addr) (len cap : Nat) (zs : List Int) (w : World) (h0 : ns.length = 24 ∧ ∀ n ∈ ns, (Lit.int .i64 n).wf = true) (hp : IsPairs w a len zs) :
    Calls Try.prog 5 #[row ns, .slice a len cap] w fun e w' => e = .returned (.bool true) ∧ Kept w w' := by
  have h24 := h0.1
  clear h0
  have hml := hp.1
  have HB := Lib.hid ((kept_refl w).alloc (.cells (ints ns).toArray 25))
  have H := Has.box w 25 h24 (by omega)
  have HP := Lib.hid hp
  clear hp
  rw [row_ints]
  go_enter Try.func5, Try.ntmps5
  go_wp2_with fail
  refine (szA2S a len cap _ hml).mono ?_
  rintro e w0 ⟨⟨r, rfl, hr⟩, rfl⟩
  by_cases hneg : r < 0
  · clear hr
    go_wp2_with fail
    go_ret
    exact ⟨rfl, HB.out⟩
  · have hlen : len ≤ 1048576 := by omega
    have hneg2 : decide (r < 0) = false := by simpa using hneg
    have KS := Lib.hid (fun v W (q : Rw W 0 v len zs) => specParty ns zs v len 0 W h24 hlen q)
    have KI := Lib.hid (fun v W (q : Rw W 0 v len zs) => implParty ns zs v len 0 W h24 hlen q)
    have hRA := ppRA_len h24 zs len
    have hPA := ppPA_len ns zs len
    obtain ⟨RA, eRA⟩ : ∃ RA, ppRA ns zs len = RA := ⟨_, rfl⟩
    obtain ⟨PA, ePA⟩ : ∃ PA, ppPA ns zs len = PA := ⟨_, rfl⟩
    obtain ⟨NA, eNA⟩ : ∃ NA, ppNA ns zs len = NA := ⟨_, rfl⟩
    obtain ⟨OK, eOK⟩ : ∃ OK, pathOkG ns len = OK := ⟨_, rfl⟩
    rw [eRA, ePA, eNA, eOK] at KS KI
    rw [eRA] at hRA
    rw [ePA] at hPA
    clear hr eRA ePA eNA eOK
    go_wp2_with (refine load_has rfl 25 _ rfl _ rfl ?_ 24 ?_ _ Try.underlying25 rfl ?_ ?_; rotate_left; (· (repeat (first | (with_reducible assumption) | ((with_reducible refine Has.box _ _ ?_ ?_) <;> (first | assumption | decide)) | (with_reducible refine Has.alloc ?_ _) | ((with_reducible refine Has.putOther ?_ _ _ ?_); rotate_left; omega; skip) | ((with_reducible refine Has.below ?_ ?_); rotate_left; assumption)))); (· kernel_rfl))
    refine (toRack_any ns _ h24).mono ?_
    rintro e w1 ⟨rfl, b1⟩
    replace H := H.below b1
    replace HB := Lib.hid (HB.out.call b1)
    clear b1
    go_wp2_with fail
    refine (toA2S a len cap zs _ (HP.out.below HB.out) hlen).mono ?_
    rintro e w2 ⟨v2, rfl, q2, b2⟩
    have Q2 := Lib.hid (q2.rw.mono (b' := 0) (Nat.zero_le _))
    replace H := H.below b2
    replace HB := Lib.hid (HB.out.call b2)
    clear b2 q2
    go_wp2_with fail
    refine (KS.out v2 _ Q2.out).mono ?_
    rintro e w3 ⟨rfl, b3⟩
    rw [row_ints, row_ints]
    have Zw3 := (Has.zero24 w3 28).alloc (.cells #[.int .i64 0, .int .i64 0] 38)
    have Yw3 : Has ((w3.alloc (.cells #[.int .i64 0, .int .i64 0, .int .i64 0, .int .i64 0, .int .i64 0, .int .i64 0, .int .i64 0, .int .i64 0, .int .i64 0, .int .i64 0, .int .i64 0, .int .i64 0, .int .i64 0, .int .i64 0, .int .i64 0, .int .i64 0, .int .i64 0, .int .i64 0, .int .i64 0, .int .i64 0, .int .i64 0, .int .i64 0, .int .i64 0, .int .i64 0] 28)).alloc (.cells #[.int .i64 0, .int .i64 0] 38)) (w3.heap.size + 1) [0, 0] 2 := (Has.box (ns := [0, 0]) (n := 2) (w3.alloc (.cells #[.int .i64 0, .int .i64 0, .int .i64 0, .int .i64 0, .int .i64 0, .int .i64 0, .int .i64 0, .int .i64 0, .int .i64 0, .int .i64 0, .int .i64 0, .int .i64 0, .int .i64 0, .int .i64 0, .int .i64 0, .int .i64 0, .int .i64 0, .int .i64 0, .int .i64 0, .int .i64 0, .int .i64 0, .int .i64 0, .int .i64 0, .int .i64 0] 28)) 38 rfl (by omega)).at (c := w3.heap.size + 1) (by simp)
    have KNw3 := ((((kept_refl w3).alloc (.cells #[.int .i64 0, .int .i64 0, .int .i64 0, .int .i64 0, .int .i64 0, .int .i64 0, .int .i64 0, .int .i64 0, .int .i64 0, .int .i64 0, .int .i64 0, .int .i64 0, .int .i64 0, .int .i64 0, .int .i64 0, .int .i64 0, .int .i64 0, .int .i64 0, .int .i64 0, .int .i64 0, .int .i64 0, .int .i64 0, .int .i64 0, .int .i64 0] 28)).alloc (.cells #[.int .i64 0, .int .i64 0] 38)).puts (b := w3.heap.size) (Nat.le_refl _) 0 (ints RA)).puts (b := w3.heap.size + 1) (by omega) 0 (ints PA)
    have R3 := (Zw3.putAll RA hRA).putOther (b' := w3.heap.size + 1) 0 (ints PA) (by omega)
    have P3 := (Yw3.putOther (b' := w3.heap.size) 0 (ints RA) (by omega)).putAll PA hPA
    replace H := (H.below b3).below KNw3
    replace HB := Lib.hid ((HB.out.call b3).call KNw3)
    clear b3 Q2 KNw3 KS
    go_wp2_with (first | (refine store_at rfl 28 _ _ rfl _ _ rfl rfl ?_ 24 ?_ ?_ ?_ ?_; rotate_left; (· (repeat (first | (with_reducible assumption) | ((with_reducible refine Has.box _ _ ?_ ?_) <;> (first | assumption | decide)) | (with_reducible refine Has.alloc ?_ _) | ((with_reducible refine Has.putOther ?_ _ _ ?_); rotate_left; omega; skip) | ((with_reducible refine Has.below ?_ ?_); rotate_left; assumption)))); (· (first | assumption | rfl)); (· kernel_rfl)) | (refine store_at rfl 38 _ _ rfl _ _ rfl rfl ?_ 2 ?_ ?_ ?_ ?_; rotate_left; (· (repeat (first | (with_reducible assumption) | ((with_reducible refine Has.box _ _ ?_ ?_) <;> (first | assumption | decide)) | (with_reducible refine Has.alloc ?_ _) | ((with_reducible refine Has.putOther ?_ _ _ ?_); rotate_left; omega; skip) | ((with_reducible refine Has.below ?_ ?_); rotate_left; assumption)))); (· (first | assumption | rfl)); (· kernel_rfl)))
    generalize World.setCells _ (w3.heap.size + 1) 0 (ints PA) = W3 at *
    obtain ⟨c3, hc3⟩ : ∃ c3, w3.heap.size = c3 := ⟨_, rfl⟩
    rw [hc3] at R3 P3 ⊢
    clear Zw3 Yw3 hc3
    refine (toA2S a len cap zs _ (HP.out.below HB.out) hlen).mono ?_
    rintro e w4 ⟨v4, rfl, q4, b4⟩
    replace H := H.below b4
    replace R3 := R3.below b4
    replace P3 := P3.below b4
    replace HB := Lib.hid (HB.out.call b4)
    have Q4 := Lib.hid q4
    clear b4 q4
    go_wp2_with (refine load_has rfl 25 _ rfl _ rfl ?_ 24 ?_ _ Try.underlying25 rfl ?_ ?_; rotate_left; (· (repeat (first | (with_reducible assumption) | ((with_reducible refine Has.box _ _ ?_ ?_) <;> (first | assumption | decide)) | (with_reducible refine Has.alloc ?_ _) | ((with_reducible refine Has.putOther ?_ _ _ ?_); rotate_left; omega; skip) | ((with_reducible refine Has.below ?_ ?_); rotate_left; assumption)))); (· kernel_rfl))
    refine (toRack_any ns _ h24).mono ?_
    rintro e w5 ⟨rfl, b5⟩
    replace R3 := R3.below b5
    replace P3 := P3.below b5
    replace HB := Lib.hid (HB.out.call b5)
    replace Q4 := Lib.hid (Q4.out.below b5)
    clear b5 H
    go_wp2_with fail
    refine (KI.out v4 _ (Q4.out.rw.mono (b' := 0) (Nat.zero_le _))).mono ?_
    rintro e w6 ⟨rfl, b6⟩
    rw [row_ints, row_ints]
    have Zw6 := (Has.zero24 w6 28).alloc (.cells #[.int .i64 0, .int .i64 0] 38)
    have Yw6 : Has ((w6.alloc (.cells #[.int .i64 0, .int .i64 0, .int .i64 0, .int .i64 0, .int .i64 0, .int .i64 0, .int .i64 0, .int .i64 0, .int .i64 0, .int .i64 0, .int .i64 0, .int .i64 0, .int .i64 0, .int .i64 0, .int .i64 0, .int .i64 0, .int .i64 0, .int .i64 0, .int .i64 0, .int .i64 0, .int .i64 0, .int .i64 0, .int .i64 0, .int .i64 0] 28)).alloc (.cells #[.int .i64 0, .int .i64 0] 38)) (w6.heap.size + 1) [0, 0] 2 := (Has.box (ns := [0, 0]) (n := 2) (w6.alloc (.cells #[.int .i64 0, .int .i64 0, .int .i64 0, .int .i64 0, .int .i64 0, .int .i64 0, .int .i64 0, .int .i64 0, .int .i64 0, .int .i64 0, .int .i64 0, .int .i64 0, .int .i64 0, .int .i64 0, .int .i64 0, .int .i64 0, .int .i64 0, .int .i64 0, .int .i64 0, .int .i64 0, .int .i64 0, .int .i64 0, .int .i64 0, .int .i64 0] 28)) 38 rfl (by omega)).at (c := w6.heap.size + 1) (by simp)
    have KNw6 := ((((kept_refl w6).alloc (.cells #[.int .i64 0, .int .i64 0, .int .i64 0, .int .i64 0, .int .i64 0, .int .i64 0, .int .i64 0, .int .i64 0, .int .i64 0, .int .i64 0, .int .i64 0, .int .i64 0, .int .i64 0, .int .i64 0, .int .i64 0, .int .i64 0, .int .i64 0, .int .i64 0, .int .i64 0, .int .i64 0, .int .i64 0, .int .i64 0, .int .i64 0, .int .i64 0] 28)).alloc (.cells #[.int .i64 0, .int .i64 0] 38)).puts (b := w6.heap.size) (Nat.le_refl _) 0 (ints RA)).puts (b := w6.heap.size + 1) (by omega) 0 (ints PA)
    have R6 := (Zw6.putAll RA hRA).putOther (b' := w6.heap.size + 1) 0 (ints PA) (by omega)
    have P6 := (Yw6.putOther (b' := w6.heap.size) 0 (ints RA) (by omega)).putAll PA hPA
    replace R3 := (R3.below b6).below KNw6
    replace P3 := (P3.below b6).below KNw6
    replace HB := Lib.hid ((HB.out.call b6).call KNw6)
    replace Q4 := Lib.hid ((Q4.out.below b6).below KNw6)
    clear b6 KNw6 KI
    go_upto_region 8 with (first | (refine store_at rfl 28 _ _ rfl _ _ rfl rfl ?_ 24 ?_ ?_ ?_ ?_; rotate_left; (· (repeat (first | (with_reducible assumption) | ((with_reducible refine Has.box _ _ ?_ ?_) <;> (first | assumption | decide)) | (with_reducible refine Has.alloc ?_ _) | ((with_reducible refine Has.putOther ?_ _ _ ?_); rotate_left; omega; skip) | ((with_reducible refine Has.below ?_ ?_); rotate_left; assumption)))); (· (first | assumption | rfl)); (· kernel_rfl)) | (refine store_at rfl 38 _ _ rfl _ _ rfl rfl ?_ 2 ?_ ?_ ?_ ?_; rotate_left; (· (repeat (first | (with_reducible assumption) | ((with_reducible refine Has.box _ _ ?_ ?_) <;> (first | assumption | decide)) | (with_reducible refine Has.alloc ?_ _) | ((with_reducible refine Has.putOther ?_ _ _ ?_); rotate_left; omega; skip) | ((with_reducible refine Has.below ?_ ?_); rotate_left; assumption)))); (· (first | assumption | rfl)); (· kernel_rfl)))
    generalize World.setCells _ (w6.heap.size + 1) 0 (ints PA) = W6 at *
    obtain ⟨c6, hc6⟩ : ∃ c6, w6.heap.size = c6 := ⟨_, rfl⟩
    rw [hc6] at R6 P6 ⊢
    clear Zw6 Yw6 hc6
    go_wp2_with (refine load_has rfl 28 _ rfl _ rfl ?_ 24 ?_ _ Try.underlying28 rfl ?_ ?_; rotate_left; (· (repeat (first | (with_reducible assumption) | ((with_reducible refine Has.box _ _ ?_ ?_) <;> (first | assumption | decide)) | (with_reducible refine Has.alloc ?_ _) | ((with_reducible refine Has.putOther ?_ _ _ ?_); rotate_left; omega; skip) | ((with_reducible refine Has.below ?_ ?_); rotate_left; assumption)))); (· kernel_rfl))
    refine (eqRack_same RA _ hRA).mono ?_
    rintro e w7 ⟨rfl, b7⟩
    replace P3 := P3.below b7
    replace P6 := P6.below b7
    replace HB := Lib.hid (HB.out.call b7)
    replace Q4 := Lib.hid (Q4.out.below b7)
    clear b7 R3 R6
    go_wp2_with (refine load_has rfl 38 _ rfl _ rfl ?_ 2 ?_ _ Try.underlying38 rfl ?_ ?_; rotate_left; (· (repeat (first | (with_reducible assumption) | ((with_reducible refine Has.box _ _ ?_ ?_) <;> (first | assumption | decide)) | (with_reducible refine Has.alloc ?_ _) | ((with_reducible refine Has.putOther ?_ _ _ ?_); rotate_left; omega; skip) | ((with_reducible refine Has.below ?_ ?_); rotate_left; assumption)))); (· kernel_rfl))
    refine (eqIntA2P PA _ hPA).mono ?_
    rintro e w8 ⟨rfl, b8⟩
    replace HB := Lib.hid (HB.out.call b8)
    replace Q4 := Lib.hid (Q4.out.below b8)
    clear b8 P3 P6
    go_wp2_with fail
    refine (toA2S a len cap zs _ (HP.out.below HB.out) hlen).mono ?_
    rintro e w9 ⟨v9, rfl, q9, b9⟩
    replace HB := Lib.hid (HB.out.call b9)
    replace Q4 := Lib.hid (Q4.out.below b9)
    have Q9 := Lib.hid q9
    clear b9 q9
    go_wp2_with fail
    refine (eqIntA2S_same v4 v9 _ _ len zs _ hlen Q4.out Q9.out).mono ?_
    rintro e wa ⟨rfl, ba⟩
    replace HB := Lib.hid (HB.out.call ba)
    clear ba
    go_wp2_with fail
    go_ret
    exact ⟨rfl, HB.out⟩
end Go.Proofs.Ytpbfdjiglacbbab.base
