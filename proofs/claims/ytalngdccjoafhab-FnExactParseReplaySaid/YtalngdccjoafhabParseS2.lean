/-
  The rack of a text, walked on the model's side.
-/
import Derived.Test.YtalngdccjoafhabParseS
namespace Go.Proofs.Ytalngdccjoafhab.base
open Go.ChangeShapes Go.WideShapes Go.ChangeAt Go.RowKit
set_option linter.unusedVariables false
set_option linter.unusedSimpArgs false

set_option maxHeartbeats 3200000 in
set_option maxRecDepth 100000 in
theorem l2Parse_29 (s : ByteArray) (w : World) (hs : s.size ≤ maxLen) (h29 : s.size = 29) :
    Calls Try.prog 50 #[.string s] w fun e w' => e = .returned (.tuple #[.agg (ints (parseA s.data.toList)).toArray, .bool (okR s.data.toList)]) ∧ Kept w w' := by
  have hsz := bytesize s
  have HB := Lib.hid (((kept_refl w).alloc (.cells #[.int .i64 0, .int .i64 0, .int .i64 0, .int .i64 0, .int .i64 0, .int .i64 0, .int .i64 0, .int .i64 0, .int .i64 0, .int .i64 0, .int .i64 0, .int .i64 0, .int .i64 0, .int .i64 0, .int .i64 0, .int .i64 0, .int .i64 0, .int .i64 0, .int .i64 0, .int .i64 0, .int .i64 0, .int .i64 0, .int .i64 0, .int .i64 0] 30)).alloc (.cells (ints z24).toArray 30))
  have Z := (Has.zero24 w 30).alloc (.cells (ints z24).toArray 30)
  have Y := (Has.box (ns := z24) (n := 24) (w.alloc (.cells #[.int .i64 0, .int .i64 0, .int .i64 0, .int .i64 0, .int .i64 0, .int .i64 0, .int .i64 0, .int .i64 0, .int .i64 0, .int .i64 0, .int .i64 0, .int .i64 0, .int .i64 0, .int .i64 0, .int .i64 0, .int .i64 0, .int .i64 0, .int .i64 0, .int .i64 0, .int .i64 0, .int .i64 0, .int .i64 0, .int .i64 0, .int .i64 0] 30)) 30 rfl (by decide)).at (size1 _ _)
  have hz : z24.length = 24 := rfl
  have q29 : ((s.size : Int) != 29) = false := by rw [h29]; rfl
  have OA := Lib.hid (fun i (hi : i < 29) (h : okAt s.data.toList i = false) => up_noR i hi h)
  have OU := Lib.hid (fun h => ok_up (l := s.data.toList) (by rw [← hsz]; exact h29) h)
  have UL := Lib.hid (upR_len s.data.toList)
  have LB := Lib.hid (fun k (h : k < 29) => dat_at s k (h29 ▸ h))
  have h29' : (s.size : Int) = 29 := by omega
  clear hsz
  go_enter Try.func50, Try.ntmps50
  go_wp2_with (first | (refine store_new rfl 30 _ _ rfl _ _ _ rfl _ (size1 _ _).symm z24 rfl rfl ?_ ?_ ?_; (· (first | assumption | rfl)); (· kernel_rfl)) | (refine build_law rfl 30 rfl _ buildRack ?_))
  go_loopg [5] 29 (fun gk i wr => ∃ k : Nat, gk = 29 - k ∧ k ≤ 29 ∧ i = .int .i64 k ∧ Has wr (w.heap.size + 1) (upR s.data.toList k) 24 ∧ Has wr w.heap.size z24 24 ∧ Hid (Kept w wr) ∧ Hid (∀ j, j < k → okAt s.data.toList j = true))
  case atStart => exact ⟨0, rfl, by omega, rfl, Y, Z, HB, Lib.hid (fun j hj => by omega)⟩
  case round =>
    obtain ⟨k, rfl, hk, rfl, G1, G2, GB, GO⟩ := hrel
    by_cases hlt : k < 29
    · obtain ⟨a, hka⟩ : ∃ a, a = k / 5 := ⟨_, rfl⟩
      obtain ⟨r, hkr⟩ : ∃ r, r = k % 5 := ⟨_, rfl⟩
      have hr5 : r < 5 := by omega
      have ha6 : a < 6 := by omega
      have ki : (k : Int) < 29 := by omega
      have k0 : (0 : Int) ≤ (k : Int) := by omega
      have ks : (k : Int) < (s.size : Int) := by omega
      have ksn : k < s.size := by omega
      have htm : (k : Int).tmod 5 = (r : Int) := by rw [hkr, Int.tmod_eq_emod_of_nonneg (by omega)]; omega
      have htd : (k : Int).tdiv 5 = (a : Int) := by rw [hka, Int.tdiv_eq_ediv_of_nonneg (by omega)]; omega
      have hC := Lib.hid (l2Sign_any s[k] (s[k].toNat : Int) rfl)
      have hb : s[k].toNat < 256 := s[k].toNat_lt
      have B := Lib.hid (LB.out k hlt)
      have UL1 := UL.out (k + 1)
      by_cases h4 : r = 4
      · have US : Hid (upR s.data.toList (k + 1) = upR s.data.toList k) := Lib.hid (by show (if k % 5 = 4 then _ else _) = _; rw [if_pos (by omega)])
        have OK : Hid (okAt s.data.toList k = decide (s[k] = 47)) := Lib.hid (by unfold okAt; rw [if_pos (by omega), B.out])
        subst h4
        clear hka
        have r4 : (((4 : Nat) : Int) == 4) = true := rfl
        by_cases h47 : s[k] = 47
        · have q : ((s[k].toNat : Int) != 47) = false := by rw [h47]; rfl
          have GO2 : Hid (∀ j, j < k + 1 → okAt s.data.toList j = true) := Lib.hid (fun j hj => by
            by_cases hjk : j = k
            · subst hjk; rw [OK.out, decide_eq_true h47]
            · exact GO.out j (by omega))
          have G3 := Has.eqv G1 US.out.symm
          clear h47 hkr
          go_wp2_with fail
          refine (hC.out _).mono ?_
          rintro e w' ⟨rfl, rfl⟩
          go_wp2_with fail
          go_roundg (29 - (k + 1))
          case rel => exact ⟨k + 1, rfl, by omega, by go_num, G3, G2, GB, GO2⟩
          case measure => omega
        · have q : ((s[k].toNat : Int) != 47) = true := by rw [bne_iff_ne]; intro e; exact h47 (UInt8.toNat_inj.1 (by show s[k].toNat = 47; omega))
          have N := Lib.hid (OA.out k hlt (by rw [OK.out, decide_eq_false h47]))
          have PN := Lib.hid (parse_no N.out)
          have S1 := Lib.hid (G2.putAll z24 rfl)
          have S2 := Lib.hid (GB.out.puts (b := w.heap.size) (Nat.le_refl _) 0 (ints z24))
          clear h47 hkr
          go_wp2_with fail
          refine (hC.out _).mono ?_
          rintro e w' ⟨rfl, rfl⟩
          go_wp2_with (first | (refine build_law rfl 30 rfl _ buildRack ?_) | (refine store_at rfl 30 _ _ rfl _ _ rfl rfl ?_ 24 ?_ ?_ ?_ ?_; rotate_left; (· (repeat (first | (with_reducible assumption) | ((with_reducible refine Has.box _ _ ?_ ?_) <;> (first | assumption | decide)) | (with_reducible refine Has.alloc ?_ _) | ((with_reducible refine Has.putOther ?_ _ _ ?_); rotate_left; omega; skip) | ((with_reducible refine Has.below ?_ ?_); rotate_left; assumption)))); (· (first | assumption | rfl)); (· kernel_rfl)))
          exact bodyPost_ret (res_has1 rfl _ _ w.heap.size z24 24 _ (.bool false) rfl rfl S1.out Try.underlying30 rfl (by kernel_rfl)) rfl ⟨by rw [PN.out, N.out], S2.out⟩
      · have US : Hid (upR s.data.toList (k + 1) = (upR s.data.toList k).set (a * 4 + r) (sgnB s[k])) := Lib.hid (by show (if k % 5 = 4 then _ else _) = _; rw [if_neg (by omega), B.out, hka, hkr])
        have OK : Hid (okAt s.data.toList k = decide (0 ≤ sgnB s[k])) := Lib.hid (by unfold okAt; rw [if_neg (by omega), B.out])
        have r4 : ((r : Int) == 4) = false := by rw [beq_eq_false_iff_ne]; omega
        have r4i : (r : Int) < 4 := by omega
        have r4n : r < 4 := by omega
        have ai6 : (a : Int) < 6 := by omega
        have a0 : (0 : Int) ≤ (a : Int) := by omega
        have r0 : (0 : Int) ≤ (r : Int) := by omega
        by_cases hsg : 0 ≤ sgnB s[k]
        · have q : decide (sgnB s[k] < 0) = false := by simp; omega
          have GO2 : Hid (∀ j, j < k + 1 → okAt s.data.toList j = true) := Lib.hid (fun j hj => by
            by_cases hjk : j = k
            · subst hjk; rw [OK.out, decide_eq_true hsg]
            · exact GO.out j (by omega))
          have f1 := G1.free (a * 4 + r) (by omega)
          have c1 := G1.cell (a * 4 + r) (by omega)
          have G3 := Has.eqv (G1.set (a * 4 + r) (sgnB s[k]) (by omega)) US.out.symm
          have G4 := G2.setOther (b' := w.heap.size + 1) (a * 4 + r) (.int .i64 (sgnB s[k])) (by omega)
          have GB4 := Lib.hid (GB.out.set (b := w.heap.size + 1) (by omega) (a * 4 + r) (.int .i64 (sgnB s[k])))
          clear hka hkr h4
          generalize sgnB s[k] = z at *
          go_wp2_with fail
          refine (hC.out _).mono ?_
          rintro e w' ⟨rfl, rfl⟩
          go_wp2_with fail
          go_roundg (29 - (k + 1))
          case rel => exact ⟨k + 1, rfl, by omega, by go_num, G3, G4, GB4, GO2⟩
          case measure => omega
        · have q : decide (sgnB s[k] < 0) = true := by simp; omega
          have q2 : sgnB s[k] < 0 := by omega
          have N := Lib.hid (OA.out k hlt (by rw [OK.out, decide_eq_false hsg]))
          have PN := Lib.hid (parse_no N.out)
          have S1 := Lib.hid (G2.putAll z24 rfl)
          have S2 := Lib.hid (GB.out.puts (b := w.heap.size) (Nat.le_refl _) 0 (ints z24))
          clear hka hkr h4 hsg
          generalize sgnB s[k] = z at *
          go_wp2_with fail
          refine (hC.out _).mono ?_
          rintro e w' ⟨rfl, rfl⟩
          go_wp2_with (first | (refine build_law rfl 30 rfl _ buildRack ?_) | (refine store_at rfl 30 _ _ rfl _ _ rfl rfl ?_ 24 ?_ ?_ ?_ ?_; rotate_left; (· (repeat (first | (with_reducible assumption) | ((with_reducible refine Has.box _ _ ?_ ?_) <;> (first | assumption | decide)) | (with_reducible refine Has.alloc ?_ _) | ((with_reducible refine Has.putOther ?_ _ _ ?_); rotate_left; omega; skip) | ((with_reducible refine Has.below ?_ ?_); rotate_left; assumption)))); (· (first | assumption | rfl)); (· kernel_rfl)))
          exact bodyPost_ret (res_has1 rfl _ _ w.heap.size z24 24 _ (.bool false) rfl rfl S1.out Try.underlying30 rfl (by kernel_rfl)) rfl ⟨by rw [PN.out, N.out], S2.out⟩
    · obtain rfl : k = 29 := by omega
      obtain ⟨u1, u2⟩ := OU.out (fun i hi => GO.out i hi)
      have O2 := Lib.hid u2
      have G3 := Has.eqv G1 u1
      have hgl := getR_len s.data.toList
      have PI := Lib.hid (fun h => parse_is (l := s.data.toList) h)
      have PN := Lib.hid (fun h => parse_no (l := s.data.toList) h)
      clear u1 u2 G1
      generalize getR s.data.toList = R at *
      go_wp2_with (refine load_has rfl 30 _ rfl _ rfl ?_ 24 ?_ _ Try.underlying30 rfl ?_ ?_; rotate_left; (· (repeat (first | (with_reducible assumption) | ((with_reducible refine Has.box _ _ ?_ ?_) <;> (first | assumption | decide)) | (with_reducible refine Has.alloc ?_ _) | ((with_reducible refine Has.putOther ?_ _ _ ?_); rotate_left; omega; skip) | ((with_reducible refine Has.below ?_ ?_); rotate_left; assumption)))); (· kernel_rfl))
      refine (l2Rack_any R _ hgl).mono ?_
      rintro e w2 ⟨rfl, b2⟩
      have G4 := G3.below b2
      have Z4 := G2.below b2
      have GB4 := Lib.hid (GB.out.call b2)
      clear G3 G2 GB b2
      by_cases hv : vR R = true
      · have S1 := Lib.hid (Z4.putAll R hgl)
        have S2 := Lib.hid (GB4.out.puts (b := w.heap.size) (Nat.le_refl _) 0 (ints R))
        have P := Lib.hid (PI.out (O2.out.trans hv))
        rw [hv]
        rw [hv] at O2
        clear hv
        go_wp2_with (first | (refine load_has rfl 30 _ rfl _ rfl ?_ 24 ?_ _ Try.underlying30 rfl ?_ ?_; rotate_left; (· (repeat (first | (with_reducible assumption) | ((with_reducible refine Has.box _ _ ?_ ?_) <;> (first | assumption | decide)) | (with_reducible refine Has.alloc ?_ _) | ((with_reducible refine Has.putOther ?_ _ _ ?_); rotate_left; omega; skip) | ((with_reducible refine Has.below ?_ ?_); rotate_left; assumption)))); (· kernel_rfl)) | (refine store_at rfl 30 _ _ rfl _ _ rfl rfl ?_ 24 ?_ ?_ ?_ ?_; rotate_left; (· (repeat (first | (with_reducible assumption) | ((with_reducible refine Has.box _ _ ?_ ?_) <;> (first | assumption | decide)) | (with_reducible refine Has.alloc ?_ _) | ((with_reducible refine Has.putOther ?_ _ _ ?_); rotate_left; omega; skip) | ((with_reducible refine Has.below ?_ ?_); rotate_left; assumption)))); (· (first | assumption | rfl)); (· kernel_rfl)))
        exact bodyPost_ret (res_has1 rfl _ _ w.heap.size R 24 _ (.bool true) rfl rfl S1.out Try.underlying30 rfl (by kernel_rfl)) rfl ⟨by rw [P.out, O2.out], S2.out⟩
      · have hf : vR R = false := by simpa using hv
        have P := Lib.hid (PN.out (O2.out.trans hf))
        rw [hf]
        rw [hf] at O2
        have S1 := Lib.hid (Z4.putAll z24 rfl)
        have S2 := Lib.hid (GB4.out.puts (b := w.heap.size) (Nat.le_refl _) 0 (ints z24))
        clear hv hf
        go_wp2_with (first | (refine build_law rfl 30 rfl _ buildRack ?_) | (refine store_at rfl 30 _ _ rfl _ _ rfl rfl ?_ 24 ?_ ?_ ?_ ?_; rotate_left; (· (repeat (first | (with_reducible assumption) | ((with_reducible refine Has.box _ _ ?_ ?_) <;> (first | assumption | decide)) | (with_reducible refine Has.alloc ?_ _) | ((with_reducible refine Has.putOther ?_ _ _ ?_); rotate_left; omega; skip) | ((with_reducible refine Has.below ?_ ?_); rotate_left; assumption)))); (· (first | assumption | rfl)); (· kernel_rfl)))
        exact bodyPost_ret (res_has1 rfl _ _ w.heap.size z24 24 _ (.bool false) rfl rfl S1.out Try.underlying30 rfl (by kernel_rfl)) rfl ⟨by rw [P.out, O2.out], S2.out⟩

set_option maxHeartbeats 3200000 in
set_option maxRecDepth 100000 in
theorem l2Parse_any (s : ByteArray) (w : World) (hs : s.size ≤ maxLen) :
    Calls Try.prog 50 #[.string s] w fun e w' => e = .returned (.tuple #[.agg (ints (parseA s.data.toList)).toArray, .bool (okR s.data.toList)]) ∧ Kept w w' := by
  by_cases h29 : s.size = 29
  · exact l2Parse_29 s w hs h29
  · exact l2Parse_no s w hs h29
end Go.Proofs.Ytalngdccjoafhab.base
