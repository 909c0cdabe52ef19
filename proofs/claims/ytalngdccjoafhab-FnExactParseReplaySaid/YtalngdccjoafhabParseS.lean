/-
  The rack of a text, walked on the model's side.
-/
import Derived.Test.YtalngdccjoafhabReadR
namespace Go.Proofs.Ytalngdccjoafhab.base
open Go.ChangeShapes Go.WideShapes Go.ChangeAt Go.RowKit
set_option linter.unusedVariables false
set_option linter.unusedSimpArgs false

def sgN (k : Nat) : Int := if k = 0 then 46 else 96 + k
theorem signAt (k : Nat) (h : k < 6) (w : World) : (Instr.index 9 (.string ⟨#[46, 97, 98, 99, 100, 101]⟩) (.int .i64 (k : Nat))).run Try.prog w = .ok (.int .u8 (sgN k)) w := by
  exact match k, h with
  | 0, _ => show _ = _ from by kernel_rfl
  | 1, _ => show _ = _ from by kernel_rfl
  | 2, _ => show _ = _ from by kernel_rfl
  | 3, _ => show _ = _ from by kernel_rfl
  | 4, _ => show _ = _ from by kernel_rfl
  | 5, _ => show _ = _ from by kernel_rfl
theorem sgn_at {b : UInt8} {k : Nat} (h : k < 6) (e : sgN k = (b.toNat : Int)) : sgnB b = (k : Int) := by
  unfold sgN at e
  unfold sgnB
  by_cases h0 : k = 0
  · rw [if_pos h0] at e
    have : b = 46 := UInt8.toNat_inj.1 (by show b.toNat = 46; omega)
    rw [if_pos this, h0]; rfl
  · rw [if_neg h0] at e
    have : b ≠ 46 := fun h => by rw [h] at e; have : (46 : UInt8).toNat = 46 := rfl; omega
    rw [if_neg this, if_pos (by omega)]; omega
theorem sgn_none {b : UInt8} (h : ∀ k, k < 6 → sgN k ≠ (b.toNat : Int)) : sgnB b = -1 := by
  unfold sgnB
  have h0 := h 0 (by omega)
  rw [if_neg (fun e => h0 (by rw [e]; rfl)), if_neg]
  intro hb
  refine h (b.toNat - 96) (by omega) ?_
  unfold sgN
  rw [if_neg (by omega)]; omega

set_option maxHeartbeats 800000 in
theorem l2Sign_any (b : UInt8) (c : Int) (hc : c = (b.toNat : Int)) (w : World) :
    Calls Try.prog 80 #[.int .u8 c] w fun e w' => e = .returned (.int .i64 (sgnB b)) ∧ w = w' := by
  have HC := Lib.hid hc
  clear hc
  go_enter Try.func80, Try.ntmps80
  go_wp2_with fail
  go_loop [3] (fun i => ∃ k : Nat, k ≤ 6 ∧ i = .int .i64 k ∧ Hid (∀ j, j < k → sgN j ≠ c)) (fun i => 6 - (intOf i).toNat)
  case atStart => exact ⟨0, by omega, rfl, Lib.hid (fun j hj => by omega)⟩
  case round =>
    obtain ⟨k, hk, rfl, GN⟩ := hrel
    by_cases h : k < 6
    · have hki : (k : Int) ≤ 5 := by omega
      have g0 := signAt k h
      by_cases e : sgN k = c
      · have R := Lib.hid (sgn_at h (e.trans HC.out))
        have q : (sgN k == c) = true := by simpa using e
        clear e
        generalize sgN k = x at *
        go_wp2_with fail
        go_ret
        exact ⟨by rw [R.out]; rfl, rfl⟩
      · have q : (sgN k == c) = false := by simpa using e
        have GN2 : Hid (∀ j, j < k + 1 → sgN j ≠ c) := Lib.hid (fun j hj => by
          by_cases hjk : j = k
          · subst hjk; exact e
          · exact GN.out j (by omega))
        clear e
        generalize sgN k = x at *
        go_wp2_with fail
        go_round
        case rel => exact ⟨k + 1, by omega, by go_num, GN2⟩
        case measure => simp [intOf]; omega
    · obtain rfl : k = 6 := by omega
      have R := Lib.hid (sgn_none (b := b) (fun j hj => by rw [← HC.out]; exact GN.out j hj))
      go_wp2_with fail
      go_ret
      exact ⟨by rw [R.out]; rfl, rfl⟩

theorem Has.eqv {w : World} {b : Nat} {ns ms : List Int} {n : Nat} (h : Has w b ns n) (e : ns = ms) : Has w b ms n := e ▸ h
theorem dat_at (s : ByteArray) (k : Nat) (h : k < s.size) : s.data.toList.getD k 0 = s[k] := by
  rw [List.getD_eq_getElem?_getD, byteat s k h]; rfl

set_option maxHeartbeats 3200000 in
set_option maxRecDepth 100000 in
theorem l2Parse_no (s : ByteArray) (w : World) (hs : s.size ≤ maxLen) (h29 : ¬ s.size = 29) :
    Calls Try.prog 50 #[.string s] w fun e w' => e = .returned (.tuple #[.agg (ints (parseA s.data.toList)).toArray, .bool (okR s.data.toList)]) ∧ Kept w w' := by
  have hsz := bytesize s
  have HB := Lib.hid (((kept_refl w).alloc (.cells #[.int .i64 0, .int .i64 0, .int .i64 0, .int .i64 0, .int .i64 0, .int .i64 0, .int .i64 0, .int .i64 0, .int .i64 0, .int .i64 0, .int .i64 0, .int .i64 0, .int .i64 0, .int .i64 0, .int .i64 0, .int .i64 0, .int .i64 0, .int .i64 0, .int .i64 0, .int .i64 0, .int .i64 0, .int .i64 0, .int .i64 0, .int .i64 0] 30)).alloc (.cells (ints z24).toArray 30))
  have Z := (Has.zero24 w 30).alloc (.cells (ints z24).toArray 30)
  have Y := (Has.box (ns := z24) (n := 24) (w.alloc (.cells #[.int .i64 0, .int .i64 0, .int .i64 0, .int .i64 0, .int .i64 0, .int .i64 0, .int .i64 0, .int .i64 0, .int .i64 0, .int .i64 0, .int .i64 0, .int .i64 0, .int .i64 0, .int .i64 0, .int .i64 0, .int .i64 0, .int .i64 0, .int .i64 0, .int .i64 0, .int .i64 0, .int .i64 0, .int .i64 0, .int .i64 0, .int .i64 0] 30)) 30 rfl (by decide)).at (size1 _ _)
  have hz : z24.length = 24 := rfl
  have q29 : ((s.size : Int) != 29) = true := by rw [bne_iff_ne]; omega
  have N := Lib.hid (show okR s.data.toList = false by unfold okR; rw [show decide (s.data.toList.length = 29) = false from decide_eq_false (by omega)]; rfl)
  have PN := Lib.hid (parse_no N.out)
  have S1 := Lib.hid (Z.putAll z24 rfl)
  have S2 := Lib.hid (HB.out.puts (b := w.heap.size) (Nat.le_refl _) 0 (ints z24))
  clear h29 hsz
  go_enter Try.func50, Try.ntmps50
  go_wp2_with (first | (refine store_new rfl 30 _ _ rfl _ _ _ rfl _ (size1 _ _).symm z24 rfl rfl ?_ ?_ ?_; (· (first | assumption | rfl)); (· kernel_rfl)) | (refine build_law rfl 30 rfl _ buildRack ?_) | (refine store_at rfl 30 _ _ rfl _ _ rfl rfl ?_ 24 ?_ ?_ ?_ ?_; rotate_left; (· (repeat (first | (with_reducible assumption) | ((with_reducible refine Has.box _ _ ?_ ?_) <;> (first | assumption | decide)) | (with_reducible refine Has.alloc ?_ _) | ((with_reducible refine Has.putOther ?_ _ _ ?_); rotate_left; omega; skip) | ((with_reducible refine Has.below ?_ ?_); rotate_left; assumption)))); (· (first | assumption | rfl)); (· kernel_rfl)))
  exact bodyPost_ret (res_has1 rfl _ _ w.heap.size z24 24 _ (.bool false) rfl rfl S1.out Try.underlying30 rfl (by kernel_rfl)) rfl ⟨by rw [PN.out, N.out], S2.out⟩
end Go.Proofs.Ytalngdccjoafhab.base
