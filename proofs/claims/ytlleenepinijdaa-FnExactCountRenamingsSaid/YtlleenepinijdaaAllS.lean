/-
  All renamings, on the model's side, walked.
-/
import Derived.Test.YtlleenepinijdaaAllM
import Derived.Test.YtlleenepinijdaaFill
import Derived.Test.YtlleenepinijdaaSixW
import Derived.Test.YtlleenepinijdaaOrdI
namespace Go.Proofs.Ytlleenepinijdaa.base
open Go.ChangeShapes Go.WideShapes Go.ChangeAt Go.RowKit
set_option linter.unusedVariables false
set_option linter.unusedSimpArgs false

set_option maxHeartbeats 1600000 in
set_option maxRecDepth 100000 in
theorem l4AllNames_any (w : World) :
    Calls Try.prog 33 #[] w fun e w' => ∃ v : Value, e = .returned v ∧ Gr w' w.heap.size 31 6 v allN ∧ Kept w w' := by
  have HB := Lib.hid ((kept_refl w).alloc (.cells #[] 31))
  have R0 := Lib.hid ((Gr.none w w.heap.size 31 6 (Nat.le_refl _)).as (ls' := upN 0) rfl)
  have hz : z6x.length = 6 := rfl
  go_enter Try.func33, Try.ntmps33
  go_wp2_with fail
  generalize w.alloc (.cells #[] 31) = W at *
  go_loopg [1, 2] 3125 (fun gk v nn wr => ∃ (k g cu : Nat), gk = 3125 - k ∧ k ≤ 3125 ∧ nn = .int .i64 k ∧ v = .slice (some ⟨g, 0, none⟩) (upN k).length cu ∧ Hid (Gr wr w.heap.size 31 6 (.slice (some ⟨g, 0, none⟩) (upN k).length cu) (upN k)) ∧ Hid (Kept w wr))
  case atStart => exact ⟨0, w.heap.size, 0, rfl, by omega, rfl, rfl, R0, HB⟩
  case round =>
    obtain ⟨k, g, cu, rfl, hk, rfl, rfl, GR, GB⟩ := hrel
    by_cases hkN : k < 3125
    · have hki : (k : Int) < 3125 := by omega
      have US := Lib.hid (upN_succ k)
      have UL := upN_len k
      have D5 := Lib.hid (digUp_all k)
      have hgl := (GR.out.own g rfl)
      have KR := Lib.hid (GR.out.alloc (.cells (ints z6x).toArray 31))
      have KB := Lib.hid (GB.out.alloc (.cells (ints z6x).toArray 31))
      have KN := (Has.box (ns := z6x) wr 31 rfl (by omega)).asL (show z6x = digUp k 0 from rfl)
      have wle := GB.out.size
      clear GR GB
      go_wp2_with (first | (refine build_law rfl 31 rfl _ build6o ?_) | (refine store_new rfl 31 _ _ rfl _ _ _ rfl _ (by simp) z6x rfl rfl ?_ ?_ ?_; (· (first | assumption | rfl)); (· kernel_rfl)))
      generalize wr.alloc (.cells (ints z6x).toArray 31) = Wk at *
      generalize wr.heap.size = b3 at *
      go_loopg [4, 5] 5 (fun gk r i wq => ∃ j : Nat, gk = 5 - j ∧ j ≤ 5 ∧ i = .int .i64 (5 - (j : Int)) ∧ r = .int .i64 (restN k j : Nat) ∧ Has wq b3 (digUp k j) 6 ∧ Hid (Gr wq w.heap.size 31 6 (.slice (some ⟨g, 0, none⟩) (upN k).length cu) (upN k)) ∧ Hid (Kept w wq))
      case atStart => exact ⟨0, rfl, by omega, rfl, rfl, KN, KR, KB⟩
      case round =>
        obtain ⟨j, rfl, hj, rfl, rfl, QN, QR, QB⟩ := hrel
        by_cases hj5 : j < 5
        · have hji : (0 : Int) < 5 - (j : Int) := by omega
          have hi6 : 5 - (j : Int) < 6 := by omega
          have hi0 : (0 : Int) ≤ 5 - (j : Int) := by omega
          have hnat : (5 - (j : Int)).toNat = 5 - j := by omega
          have RL := restN_le k j
          have RS : restN k (j + 1) = restN k j / 5 := rfl
          have f0 := QN.free (5 - j) (by omega)
          have c0 := QN.cell (5 - j) (by omega)
          have S1 := Lib.hid ((QN.set (5 - j) ((1 + restN k j % 5 : Nat) : Int) (by omega)).asL (show (digUp k j).set (5 - j) ((1 + restN k j % 5 : Nat) : Int) = digUp k (j + 1) from rfl))
          have ev : (1 : Int) + ((restN k j : Nat) : Int) % 5 = ((1 + restN k j % 5 : Nat) : Int) := by omega
          have ed : ((restN k j : Nat) : Int) / 5 = ((restN k (j + 1) : Nat) : Int) := by rw [RS]; omega
          have HEV := Lib.hid ev
          have HED := Lib.hid ed
          have S2 := Lib.hid (QR.out.puts b3 (5 - j) [.int .i64 ((1 + restN k j % 5 : Nat) : Int)] (fun z hz e => by have hz := Option.some.inj (show some g = some z from hz); omega))
          have S4 := Lib.hid (QB.out.set (b := b3) (by omega) (5 - j) (.int .i64 ((1 + restN k j % 5 : Nat) : Int)))
          rw [← ev] at S1 S2 S4
          clear RS ev ed QN QR QB
          generalize restN k j = r0 at *
          go_wp2_with fail
          go_roundg (5 - (j + 1))
          case rel => exact ⟨j + 1, rfl, by omega, by go_num, by rw [HED.out], S1.out, S2, S4⟩
          case measure => omega
        · obtain rfl : j = 5 := by omega
          have QN2 := QN.asL D5.out
          have hn6 := QN2.len
          have hn6' : (namesOf k).length = 6 := hn6
          have US2 := US.out
          clear QN
          generalize namesOf k = nm at *
          go_wp2_with (refine load_has rfl 31 _ rfl _ rfl ?_ 6 ?_ _ Try.underlying31 rfl ?_ ?_; rotate_left; (· (repeat (first | (with_reducible assumption) | ((with_reducible refine Has.box _ _ ?_ ?_) <;> (first | assumption | decide)) | (with_reducible refine Has.alloc ?_ _) | ((with_reducible refine Has.putOther ?_ _ _ ?_); rotate_left; omega; skip) | ((with_reducible refine Has.below ?_ ?_); rotate_left; assumption)))); (· kernel_rfl))
          refine (l4Names_any nm _ hn6).mono ?_
          rintro e w5 ⟨rfl, b5⟩
          replace QN2 := QN2.below b5
          replace QR := Lib.hid (QR.out.below b5)
          replace QB := Lib.hid (QB.out.call b5)
          clear b5
          by_cases hb : namesB nm = true
          · rw [hb]
            rw [if_pos hb] at US2
            have UH := Lib.hid US2
            have hg5 := (QR.out.own g rfl)
            clear hb US2
            go_wp2_with (first | (refine load_has rfl 31 _ rfl _ rfl ?_ 6 ?_ _ Try.underlying31 rfl ?_ ?_; rotate_left; (· (repeat (first | (with_reducible assumption) | ((with_reducible refine Has.box _ _ ?_ ?_) <;> (first | assumption | decide)) | (with_reducible refine Has.alloc ?_ _) | ((with_reducible refine Has.putOther ?_ _ _ ?_); rotate_left; omega; skip) | ((with_reducible refine Has.below ?_ ?_); rotate_left; assumption)))); (· kernel_rfl)) | (refine wpList_slice1 rfl 51 31 _ rfl 6 48 Try.underlying51 (by kernel_rfl) (by omega) (by omega) nm rfl hn6 ?_) | (at_builtin; refine append_gr rfl _ _ 51 rfl w.heap.size 31 6 48 Try.underlying51 (by kernel_rfl) (by omega) (by omega) _ (upN k).length (upN k) rfl rfl (QR.out.alloc _) w5.heap.size 1 rfl nm (Has.box w5 31 hn6 (by omega)) (by rw [size1]; omega) (by omega) ?_; intro g' cu' w7 hG hgrow hlie hlt))
            have hle : (upN (k + 1)).length = (upN k).length + 1 := by rw [UH.out]; simp
            have K1 := Lib.hid (show Gr w7 w.heap.size 31 6 (.slice (some ⟨g', 0, none⟩) (upN (k + 1)).length cu') (upN (k + 1)) by rw [hle, UH.out]; exact hG)
            have K2 : Hid (Kept w w7) := Lib.hid ((QB.out.alloc (.cells (ints nm).toArray 31)).grown hgrow (QB.out.alloc (.cells (ints nm).toArray 31)).size (fun j hj => by have hj := Option.some.inj (show some g = some j from hj); omega))
            clear hG hgrow hlie QR QB
            go_wp2_with fail
            go_roundg (3125 - (k + 1))
            case rel => exact ⟨k + 1, g', cu', rfl, by omega, by go_num, by rw [hle], K1, K2⟩
            case measure => omega
          · rw [show namesB nm = false by simpa using hb]
            rw [if_neg hb] at US2
            have UH := Lib.hid US2
            have K1 := Lib.hid (show Gr w5 w.heap.size 31 6 (.slice (some ⟨g, 0, none⟩) (upN (k + 1)).length cu) (upN (k + 1)) by rw [US2]; exact QR.out)
            clear hb US2
            go_wp2_with fail
            go_roundg (3125 - (k + 1))
            case rel => exact ⟨k + 1, g, cu, rfl, by omega, by go_num, by rw [UH.out], K1, QB⟩
            case measure => omega
    · obtain rfl : k = 3125 := by omega
      go_wp2_with fail
      go_ret
      exact ⟨_, rfl, GR.out.as upN_all, GB.out⟩
end Go.Proofs.Ytlleenepinijdaa.base
