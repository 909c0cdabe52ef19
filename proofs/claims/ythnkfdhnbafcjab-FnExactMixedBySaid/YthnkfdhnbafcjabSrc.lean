/-
  All possible sources, on both sides, walked.
-/
import Derived.Test.YthnkfdhnbafcjabSrcM
import Derived.Test.YthnkfdhnbafcjabBackI
import Derived.Test.YthnkfdhnbafcjabGrid
import Derived.Test.YthnkfdhnbafcjabFill
namespace Go.Proofs.Ythnkfdhnbafcjab.base
open Go.ChangeShapes Go.WideShapes Go.ChangeAt Go.RowKit
set_option linter.unusedVariables false
set_option linter.unusedSimpArgs false

def SrcPost (ns : List Int) (w : World) (e : Ending) (w' : World) : Prop := ∃ v : Value, e = .returned (.tuple #[v, .bool (vR ns)]) ∧ Gr w' w.heap.size 60 3 v (srcA ns) ∧ Kept w w'

set_option maxHeartbeats 3200000 in
set_option maxRecDepth 100000 in
theorem l5Sources_any (ns : List Int) (w : World) (h24 : ns.length = 24) (hv : vR ns = true) :
    Calls Try.prog 36 #[row ns] w fun e w' => ∃ v : Value, e = .returned v ∧ Gr w' w.heap.size 60 3 v (srcL ns 144) ∧ Kept w w' := by
  have HB := Lib.hid (((kept_refl w).alloc (.cells (ints ns).toArray 29)).alloc (.cells #[] 60))
  have H := (Has.box w 29 h24 (by omega)).alloc (.cells #[] 60)
  have P0 := Gr.none (w.alloc (.cells (ints ns).toArray 29)) (w.heap.size + 1) 60 3 (by simp)
  rw [size1] at P0
  have G0 := Lib.hid (P0.as (ls' := srcL ns (0 * 6 * 4)) (by rfl))
  clear P0
  rw [row_ints]
  go_enter Try.func36, Try.ntmps36
  go_wp2_with fail
  have H24 := Lib.hid h24
  have HV := Lib.hid hv
  clear h24 hv
  generalize ((w.alloc (.cells (ints ns).toArray 29)).alloc (.cells #[] 60)) = W at *
  go_loopg [3, 4, 5, 6] 6 (fun gk v i j k2 wr => ∃ p : Nat, gk = 6 - p ∧ p ≤ 6 ∧ i = .int .i64 p ∧ Has wr w.heap.size ns 24 ∧ Hid (Gr wr (w.heap.size + 1) 60 3 v (srcL ns (p * 6 * 4))) ∧ Hid (Kept w wr))
  case atStart => exact ⟨0, rfl, by omega, rfl, H, G0, HB⟩
  case round =>
    obtain ⟨p, rfl, hp, rfl, GH, GP, GB⟩ := hrel
    by_cases hp6 : p < 6
    · have hpi : (p : Int) < 6 := by omega
      have GP2 := Lib.hid (GP.out.as (show srcL ns (p * 6 * 4) = srcL ns ((p * 6 + 0) * 4) by rfl))
      go_wp2_with fail
      go_loopg [3, 5, 6] 6 (fun gk v j k2 wr => ∃ q : Nat, gk = 6 - q ∧ q ≤ 6 ∧ j = .int .i64 q ∧ Has wr w.heap.size ns 24 ∧ Hid (Gr wr (w.heap.size + 1) 60 3 v (srcL ns ((p * 6 + q) * 4))) ∧ Hid (Kept w wr))
      case atStart => exact ⟨0, rfl, by omega, rfl, GH, GP2, GB⟩
      case round =>
        obtain ⟨q, rfl, hq, rfl, QH, QP, QB⟩ := hrel
        by_cases hq6 : q < 6
        · have hqi : (q : Int) < 6 := by omega
          have QP2 := Lib.hid (QP.out.as (show srcL ns ((p * 6 + q) * 4) = srcL ns ((p * 6 + q) * 4 + 0) by rfl))
          go_wp2_with fail
          go_loopg [3, 6] 4 (fun gk v z wr => ∃ k : Nat, gk = 4 - k ∧ k ≤ 4 ∧ z = .int .i64 ((k + 1 : Nat) : Int) ∧ Has wr w.heap.size ns 24 ∧ Hid (Gr wr (w.heap.size + 1) 60 3 v (srcL ns ((p * 6 + q) * 4 + k))) ∧ Hid (Kept w wr))
          case atStart => exact ⟨0, rfl, by omega, rfl, QH, QP2, QB⟩
          case round =>
            obtain ⟨k, rfl, hk, rfl, KH, KP, KB⟩ := hrel
            obtain ⟨z, hz⟩ : ∃ z : Int, ((k + 1 : Nat) : Int) = z := ⟨_, rfl⟩
            rw [hz]
            by_cases hk4 : k < 4
            · have hzi : z ≤ 4 := by omega
              have hz0 : 0 < z := by omega
              have HY := Lib.hid (srcL_yes ns p q k hq6 hk4)
              have HN := Lib.hid (srcL_no ns p q k hq6 hk4)
              have hle := srcL_le ns ((p * 6 + q) * 4 + k)
              rw [hz] at HY HN
              have HZ := Lib.hid hz
              clear hz
              have hLe : (srcL ns ((p * 6 + q) * 4 + k)).length ≤ 144 := by omega
              clear hle
              have hlt := KH.lt
              have hbl := backR_len H24.out p q z
              have KS : Has (wr.alloc (.cells #[.int .i64 (p : Int), .int .i64 (q : Int), .int .i64 z] 60)) wr.heap.size [(p : Int), (q : Int), z] 3 := Has.box (ns := [(p : Int), (q : Int), z]) wr 60 rfl (by simp)
              have KH2 := KH.alloc (.cells #[.int .i64 (p : Int), .int .i64 (q : Int), .int .i64 z] 60)
              have KP2 := Lib.hid (KP.out.alloc (.cells #[.int .i64 (p : Int), .int .i64 (q : Int), .int .i64 z] 60))
              have KB2 := Lib.hid (KB.out.alloc (.cells #[.int .i64 (p : Int), .int .i64 (q : Int), .int .i64 z] 60))
              clear KH KP KB
              go_wp2_with (first | (refine store_new rfl 60 _ _ rfl _ _ _ rfl _ rfl _ rfl rfl ?_ ?_ ?_; (· (first | assumption | rfl)); (· kernel_rfl)) | (refine load_has rfl 29 _ rfl _ rfl ?_ 24 ?_ _ Try.underlying29 rfl ?_ ?_; rotate_left; (· (repeat (first | (with_reducible assumption) | ((with_reducible refine Has.box _ _ ?_ ?_) <;> (first | assumption | decide)) | (with_reducible refine Has.alloc ?_ _) | ((with_reducible refine Has.putOther ?_ _ _ ?_); rotate_left; omega; skip) | ((with_reducible refine Has.below ?_ ?_); rotate_left; assumption)))); (· kernel_rfl)) | (refine load_has rfl 60 _ rfl _ rfl ?_ 3 ?_ _ Try.underlying60 rfl ?_ ?_; rotate_left; (· (repeat (first | (with_reducible assumption) | ((with_reducible refine Has.box _ _ ?_ ?_) <;> (first | assumption | decide)) | (with_reducible refine Has.alloc ?_ _) | ((with_reducible refine Has.putOther ?_ _ _ ?_); rotate_left; omega; skip) | ((with_reducible refine Has.below ?_ ?_); rotate_left; assumption)))); (· kernel_rfl)))
              refine (l5Back_any ns p q z _ H24.out HV.out).mono ?_
              rintro e w2 ⟨rfl, b2⟩
              have KH3 := (KH2.below b2).alloc (.cells (ints (backR ns p q z)).toArray 29)
              have KS3 := (KS.below b2).alloc (.cells (ints (backR ns p q z)).toArray 29)
              have KP3 := Lib.hid ((KP2.out.below b2).alloc (.cells (ints (backR ns p q z)).toArray 29))
              have KB3 := Lib.hid ((KB2.out.call b2).alloc (.cells (ints (backR ns p q z)).toArray 29))
              have hlt3 := KH3.lt
              have hbs := KB3.out.size
              have hbs2 := KB2.out.size
              have hbs3 := b2.size
              clear KH2 KS KP2 KB2 b2
              by_cases hb : backOk ns p q z = true
              · rw [hb]
                have Y := Lib.hid (HY.out hb)
                clear hb HY HN
                generalize hLL : srcL ns ((p * 6 + q) * 4 + k) = L at *
                go_wp2_with (first | (refine store_new rfl 29 _ _ rfl _ _ _ rfl _ rfl _ rfl rfl ?_ ?_ ?_; (· (first | assumption | rfl)); (· kernel_rfl)) | (refine load_has rfl 60 _ rfl _ rfl ?_ 3 ?_ _ Try.underlying60 rfl ?_ ?_; rotate_left; (· (repeat (first | (with_reducible assumption) | ((with_reducible refine Has.box _ _ ?_ ?_) <;> (first | assumption | decide)) | (with_reducible refine Has.alloc ?_ _) | ((with_reducible refine Has.putOther ?_ _ _ ?_); rotate_left; omega; skip) | ((with_reducible refine Has.below ?_ ?_); rotate_left; assumption)))); (· kernel_rfl)) | (refine wpList_slice1 rfl 57 60 _ rfl 3 24 Try.underlying57 (by kernel_rfl) (by omega) (by omega) [(p : Int), (q : Int), z] rfl rfl ?_) | (at_builtin; refine append_gr rfl _ _ 57 rfl (w.heap.size + 1) 60 3 24 Try.underlying57 (by kernel_rfl) (by omega) (by omega) _ L.length L rfl rfl (KP3.out.alloc _) (w2.alloc (.cells (ints (backR ns p q z)).toArray 29)).heap.size 1 rfl [(p : Int), (q : Int), z] (Has.box (ns := [(p : Int), (q : Int), z]) (w2.alloc (.cells (ints (backR ns p q z)).toArray 29)) 60 rfl (by simp)) (by simp at *; omega) (by omega) ?_; intro g' cu' w4 hG hgrow hlie hlt4))
                have A1 := (KH3.alloc (.cells (ints [(p : Int), (q : Int), z]).toArray 60)).grownNo hgrow (fun e => by have := (KP3.out.own w.heap.size e.symm).1; omega)
                have A3 : Hid (Kept w w4) := Lib.hid ((KB3.out.alloc (.cells (ints [(p : Int), (q : Int), z]).toArray 60)).grown hgrow (KB3.out.alloc (.cells (ints [(p : Int), (q : Int), z]).toArray 60)).size (fun j hj => by have := (KP3.out.own j hj).1; omega))
                have A2 := Lib.hid (hG.as Y.out.symm)
                clear hG hgrow hlie KH3 KS3 KP3 KB3
                go_roundg (4 - (k + 1))
                case rel => exact ⟨k + 1, rfl, by omega, by have := HZ.out; go_num, A1, A2, A3⟩
                case measure => omega
              · have hf : backOk ns p q z = false := by simpa using hb
                have A2 := Lib.hid (KP3.out.as (HN.out hf).symm)
                rw [hf]
                clear hb hf HY HN KP3
                go_wp2_with (refine store_new rfl 29 _ _ rfl _ _ _ rfl _ rfl _ rfl rfl ?_ ?_ ?_; (· (first | assumption | rfl)); (· kernel_rfl))
                go_roundg (4 - (k + 1))
                case rel => exact ⟨k + 1, rfl, by omega, by have := HZ.out; go_num, KH3, A2, KB3⟩
                case measure => omega
            · obtain rfl : k = 4 := by omega
              have hzi : ¬ z ≤ 4 := by omega
              have hzd : decide (z ≤ 4) = false := by simp; omega
              have hzl : (4 : Int) < z := by omega
              have QP3 := Lib.hid (KP.out.as (show srcL ns ((p * 6 + q) * 4 + 4) = srcL ns ((p * 6 + (q + 1)) * 4) by rw [show (p * 6 + q) * 4 + 4 = (p * 6 + (q + 1)) * 4 by omega]))
              clear hz KP
              go_wp2_with fail
              go_roundg (6 - (q + 1))
              case rel => exact ⟨q + 1, rfl, by omega, by go_num, KH, QP3, KB⟩
              case measure => omega
        · obtain rfl : q = 6 := by omega
          have GP3 := Lib.hid (QP.out.as (show srcL ns ((p * 6 + 6) * 4) = srcL ns ((p + 1) * 6 * 4) by rw [show (p * 6 + 6) * 4 = (p + 1) * 6 * 4 by omega]))
          clear QP
          go_wp2_with fail
          go_roundg (6 - (p + 1))
          case rel => exact ⟨p + 1, rfl, by omega, by go_num, QH, GP3, QB⟩
          case measure => omega
    · obtain rfl : p = 6 := by omega
      go_wp2_with fail
      go_ret
      exact ⟨_, rfl, GP.out.mono (by omega), GB.out⟩

set_option maxHeartbeats 3200000 in
set_option maxRecDepth 100000 in
theorem implSources (ns : List Int) (w : World) (h24 : ns.length = 24) :
    Calls Try.prog 41 #[row ns] w (SrcPost ns w) := by
  have HB := Lib.hid (((kept_refl w).alloc (.cells (ints ns).toArray 29)).alloc (.cells #[] 60))
  have H := (Has.box w 29 h24 (by omega)).alloc (.cells #[] 60)
  have P0 := Gr.none (w.alloc (.cells (ints ns).toArray 29)) (w.heap.size + 1) 60 3 (by simp)
  rw [size1] at P0
  have G0 := Lib.hid (P0.as (ls' := srcL ns (0 * 6 * 4)) (by rfl))
  clear P0
  rw [row_ints]
  go_enter Try.func41, Try.ntmps41
  go_wp2_with (refine load_has rfl 29 _ rfl _ rfl ?_ 24 ?_ _ Try.underlying29 rfl ?_ ?_; rotate_left; (· (repeat (first | (with_reducible assumption) | ((with_reducible refine Has.box _ _ ?_ ?_) <;> (first | assumption | decide)) | (with_reducible refine Has.alloc ?_ _) | ((with_reducible refine Has.putOther ?_ _ _ ?_); rotate_left; omega; skip) | ((with_reducible refine Has.below ?_ ?_); rotate_left; assumption)))); (· kernel_rfl))
  refine (isRack_any ns _ h24).mono ?_
  rintro e w1 ⟨rfl, b1⟩
  replace H := H.below b1
  replace G0 := Lib.hid (G0.out.below b1)
  replace HB := Lib.hid (HB.out.call b1)
  clear b1
  have H24 := Lib.hid h24
  by_cases hv : vR ns = true
  · rw [hv]
    have HV := Lib.hid hv
    clear h24 hv
    go_wp2_with fail
    go_loopg [4, 16] 6 (fun gk v i wr => ∃ p : Nat, gk = 6 - p ∧ p ≤ 6 ∧ i = .int .i64 p ∧ Has wr w.heap.size ns 24 ∧ Hid (Gr wr (w.heap.size + 1) 60 3 v (srcL ns (p * 6 * 4))) ∧ Hid (Kept w wr))
    case atStart => exact ⟨0, rfl, by omega, rfl, H, G0, HB⟩
    case round =>
      obtain ⟨p, rfl, hp, rfl, GH, GP, GB⟩ := hrel
      by_cases hp6 : p < 6
      · have hpi : (p : Int) < 6 := by omega
        have GP2 := Lib.hid (GP.out.as (show srcL ns (p * 6 * 4) = srcL ns ((p * 6 + 0) * 4) by rfl))
        go_wp2_with fail
        go_loopg [4, 19] 6 (fun gk v j wr => ∃ q : Nat, gk = 6 - q ∧ q ≤ 6 ∧ j = .int .i64 q ∧ Has wr w.heap.size ns 24 ∧ Hid (Gr wr (w.heap.size + 1) 60 3 v (srcL ns ((p * 6 + q) * 4))) ∧ Hid (Kept w wr))
        case atStart => exact ⟨0, rfl, by omega, rfl, GH, GP2, GB⟩
        case round =>
          obtain ⟨q, rfl, hq, rfl, QH, QP, QB⟩ := hrel
          by_cases hq6 : q < 6
          · have hqi : (q : Int) < 6 := by omega
            have QP2 := Lib.hid (QP.out.as (show srcL ns ((p * 6 + q) * 4) = srcL ns ((p * 6 + q) * 4 + 0) by rfl))
            go_wp2_with fail
            go_loopg [4, 7] 4 (fun gk v z wr => ∃ k : Nat, gk = 4 - k ∧ k ≤ 4 ∧ z = .int .i64 ((k + 1 : Nat) : Int) ∧ Has wr w.heap.size ns 24 ∧ Hid (Gr wr (w.heap.size + 1) 60 3 v (srcL ns ((p * 6 + q) * 4 + k))) ∧ Hid (Kept w wr))
            case atStart => exact ⟨0, rfl, by omega, rfl, QH, QP2, QB⟩
            case round =>
              obtain ⟨k, rfl, hk, rfl, KH, KP, KB⟩ := hrel
              obtain ⟨z, hz⟩ : ∃ z : Int, ((k + 1 : Nat) : Int) = z := ⟨_, rfl⟩
              rw [hz]
              by_cases hk4 : k < 4
              · have hzi : z ≤ 4 := by omega
                have hz0 : 0 < z := by omega
                have HY := Lib.hid (srcL_yes ns p q k hq6 hk4)
                have HN := Lib.hid (srcL_no ns p q k hq6 hk4)
                have hle := srcL_le ns ((p * 6 + q) * 4 + k)
                rw [hz] at HY HN
                have HZ := Lib.hid hz
                clear hz
                have hLe : (srcL ns ((p * 6 + q) * 4 + k)).length ≤ 144 := by omega
                clear hle
                have hlt := KH.lt
                have hbl := backR_len H24.out p q z
                have KS : Has (wr.alloc (.cells #[.int .i64 (p : Int), .int .i64 (q : Int), .int .i64 z] 60)) wr.heap.size [(p : Int), (q : Int), z] 3 := Has.box (ns := [(p : Int), (q : Int), z]) wr 60 rfl (by simp)
                have KH2 := KH.alloc (.cells #[.int .i64 (p : Int), .int .i64 (q : Int), .int .i64 z] 60)
                have KP2 := Lib.hid (KP.out.alloc (.cells #[.int .i64 (p : Int), .int .i64 (q : Int), .int .i64 z] 60))
                have KB2 := Lib.hid (KB.out.alloc (.cells #[.int .i64 (p : Int), .int .i64 (q : Int), .int .i64 z] 60))
                clear KH KP KB
                go_wp2_with (first | (refine store_new rfl 60 _ _ rfl _ _ _ rfl _ rfl _ rfl rfl ?_ ?_ ?_; (· (first | assumption | rfl)); (· kernel_rfl)) | (refine load_has rfl 29 _ rfl _ rfl ?_ 24 ?_ _ Try.underlying29 rfl ?_ ?_; rotate_left; (· (repeat (first | (with_reducible assumption) | ((with_reducible refine Has.box _ _ ?_ ?_) <;> (first | assumption | decide)) | (with_reducible refine Has.alloc ?_ _) | ((with_reducible refine Has.putOther ?_ _ _ ?_); rotate_left; omega; skip) | ((with_reducible refine Has.below ?_ ?_); rotate_left; assumption)))); (· kernel_rfl)) | (refine load_has rfl 60 _ rfl _ rfl ?_ 3 ?_ _ Try.underlying60 rfl ?_ ?_; rotate_left; (· (repeat (first | (with_reducible assumption) | ((with_reducible refine Has.box _ _ ?_ ?_) <;> (first | assumption | decide)) | (with_reducible refine Has.alloc ?_ _) | ((with_reducible refine Has.putOther ?_ _ _ ?_); rotate_left; omega; skip) | ((with_reducible refine Has.below ?_ ?_); rotate_left; assumption)))); (· kernel_rfl)))
                refine (implPourBack ns p q z _ H24.out).mono ?_
                rintro e w2 ⟨rfl, b2⟩
                have KH3 := (KH2.below b2).alloc (.cells (ints (backR ns p q z)).toArray 29)
                have KS3 := (KS.below b2).alloc (.cells (ints (backR ns p q z)).toArray 29)
                have KP3 := Lib.hid ((KP2.out.below b2).alloc (.cells (ints (backR ns p q z)).toArray 29))
                have KB3 := Lib.hid ((KB2.out.call b2).alloc (.cells (ints (backR ns p q z)).toArray 29))
                have hlt3 := KH3.lt
                have hbs := KB3.out.size
                have hbs2 := KB2.out.size
                have hbs3 := b2.size
                clear KH2 KS KP2 KB2 b2
                by_cases hb : backOk ns p q z = true
                · rw [hb]
                  have Y := Lib.hid (HY.out hb)
                  clear hb HY HN
                  generalize hLL : srcL ns ((p * 6 + q) * 4 + k) = L at *
                  go_wp2_with (first | (refine store_new rfl 29 _ _ rfl _ _ _ rfl _ rfl _ rfl rfl ?_ ?_ ?_; (· (first | assumption | rfl)); (· kernel_rfl)) | (refine load_has rfl 60 _ rfl _ rfl ?_ 3 ?_ _ Try.underlying60 rfl ?_ ?_; rotate_left; (· (repeat (first | (with_reducible assumption) | ((with_reducible refine Has.box _ _ ?_ ?_) <;> (first | assumption | decide)) | (with_reducible refine Has.alloc ?_ _) | ((with_reducible refine Has.putOther ?_ _ _ ?_); rotate_left; omega; skip) | ((with_reducible refine Has.below ?_ ?_); rotate_left; assumption)))); (· kernel_rfl)) | (refine wpList_slice1 rfl 57 60 _ rfl 3 24 Try.underlying57 (by kernel_rfl) (by omega) (by omega) [(p : Int), (q : Int), z] rfl rfl ?_) | (at_builtin; refine append_gr rfl _ _ 57 rfl (w.heap.size + 1) 60 3 24 Try.underlying57 (by kernel_rfl) (by omega) (by omega) _ L.length L rfl rfl (KP3.out.alloc _) (w2.alloc (.cells (ints (backR ns p q z)).toArray 29)).heap.size 1 rfl [(p : Int), (q : Int), z] (Has.box (ns := [(p : Int), (q : Int), z]) (w2.alloc (.cells (ints (backR ns p q z)).toArray 29)) 60 rfl (by simp)) (by simp at *; omega) (by omega) ?_; intro g' cu' w4 hG hgrow hlie hlt4))
                  have A1 := (KH3.alloc (.cells (ints [(p : Int), (q : Int), z]).toArray 60)).grownNo hgrow (fun e => by have := (KP3.out.own w.heap.size e.symm).1; omega)
                  have A3 : Hid (Kept w w4) := Lib.hid ((KB3.out.alloc (.cells (ints [(p : Int), (q : Int), z]).toArray 60)).grown hgrow (KB3.out.alloc (.cells (ints [(p : Int), (q : Int), z]).toArray 60)).size (fun j hj => by have := (KP3.out.own j hj).1; omega))
                  have A2 := Lib.hid (hG.as Y.out.symm)
                  clear hG hgrow hlie KH3 KS3 KP3 KB3
                  go_roundg (4 - (k + 1))
                  case rel => exact ⟨k + 1, rfl, by omega, by have := HZ.out; go_num, A1, A2, A3⟩
                  case measure => omega
                · have hf : backOk ns p q z = false := by simpa using hb
                  have A2 := Lib.hid (KP3.out.as (HN.out hf).symm)
                  rw [hf]
                  clear hb hf HY HN KP3
                  go_wp2_with (refine store_new rfl 29 _ _ rfl _ _ _ rfl _ rfl _ rfl rfl ?_ ?_ ?_; (· (first | assumption | rfl)); (· kernel_rfl))
                  go_roundg (4 - (k + 1))
                  case rel => exact ⟨k + 1, rfl, by omega, by have := HZ.out; go_num, KH3, A2, KB3⟩
                  case measure => omega
              · obtain rfl : k = 4 := by omega
                have hzi : ¬ z ≤ 4 := by omega
                have hzd : decide (z ≤ 4) = false := by simp; omega
                have hzl : (4 : Int) < z := by omega
                have QP3 := Lib.hid (KP.out.as (show srcL ns ((p * 6 + q) * 4 + 4) = srcL ns ((p * 6 + (q + 1)) * 4) by rw [show (p * 6 + q) * 4 + 4 = (p * 6 + (q + 1)) * 4 by omega]))
                clear hz KP
                go_wp2_with fail
                go_roundg (6 - (q + 1))
                case rel => exact ⟨q + 1, rfl, by omega, by go_num, KH, QP3, KB⟩
                case measure => omega
          · obtain rfl : q = 6 := by omega
            have GP3 := Lib.hid (QP.out.as (show srcL ns ((p * 6 + 6) * 4) = srcL ns ((p + 1) * 6 * 4) by rw [show (p * 6 + 6) * 4 = (p + 1) * 6 * 4 by omega]))
            clear QP
            go_wp2_with fail
            go_roundg (6 - (p + 1))
            case rel => exact ⟨p + 1, rfl, by omega, by go_num, QH, GP3, QB⟩
            case measure => omega
      · obtain rfl : p = 6 := by omega
        go_wp2_with fail
        go_ret2
        exact ⟨_, by rw [HV.out]; rfl, (GP.out.mono (by omega)).as (show srcL ns (6 * 6 * 4) = srcA ns by unfold srcA; rw [if_pos HV.out]), GB.out⟩
  · have hf : vR ns = false := by simpa using hv
    rw [hf]
    have HV := Lib.hid hf
    have E := Lib.hid (show srcA ns = [] by unfold srcA; rw [if_neg hv])
    clear hf hv
    go_wp2_with fail
    go_ret2
    exact ⟨_, by rw [HV.out]; rfl, (G0.out.mono (by omega)).as E.out.symm, HB.out⟩

end Go.Proofs.Ythnkfdhnbafcjab.base
