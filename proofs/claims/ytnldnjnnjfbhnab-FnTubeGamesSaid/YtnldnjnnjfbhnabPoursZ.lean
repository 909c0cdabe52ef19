/-
  Which pours there are: plain mathematics, and both sides, walked.
-/
/-
  Which pours there are, on the program's side, walked.
-/
import Derived.Test.YtnldnjnnjfbhnabRunsZ
import Derived.Test.YtnldnjnnjfbhnabCanZ
import Derived.Test.YtnldnjnnjfbhnabTubeWZ

section
namespace Go.Proofs.Ytnldnjnnjfbhnab.base
open Go.ChangeShapes Go.WideShapes Go.ChangeAt Go.RowKit
set_option linter.unusedVariables false
set_option linter.unusedSimpArgs false

/-- The pours among the first m pairs of places, flat. -/
def poursF (ns : List Int) : Nat → List Int
  | 0 => []
  | m + 1 => if m / 6 ≠ m % 6 ∧ 0 < canN (tub ns (m / 6)) (tub ns (m % 6)) then poursF ns m ++ [((m / 6 : Nat) : Int), ((m % 6 : Nat) : Int)] else poursF ns m
def poursN (ns : List Int) (m : Nat) : Nat := (poursF ns m).length / 2
theorem poursF_yes (ns : List Int) (p q : Nat) (hq : q < 6) (h : p ≠ q ∧ 0 < canN (tub ns p) (tub ns q)) : poursF ns (p * 6 + (q + 1)) = poursF ns (p * 6 + q) ++ [(p : Int), (q : Int)] := by
  have e1 : (p * 6 + q) / 6 = p := by omega
  have e2 : (p * 6 + q) % 6 = q := by omega
  rw [show p * 6 + (q + 1) = (p * 6 + q) + 1 by omega, poursF, e1, e2, if_pos h]
theorem poursF_no (ns : List Int) (p q : Nat) (hq : q < 6) (h : ¬ (p ≠ q ∧ 0 < canN (tub ns p) (tub ns q))) : poursF ns (p * 6 + (q + 1)) = poursF ns (p * 6 + q) := by
  have e1 : (p * 6 + q) / 6 = p := by omega
  have e2 : (p * 6 + q) % 6 = q := by omega
  rw [show p * 6 + (q + 1) = (p * 6 + q) + 1 by omega, poursF, e1, e2, if_neg h]
theorem poursN_yes (ns : List Int) (p q : Nat) (hq : q < 6) (h : p ≠ q ∧ 0 < canN (tub ns p) (tub ns q)) : poursN ns (p * 6 + (q + 1)) = poursN ns (p * 6 + q) + 1 := by
  unfold poursN; rw [poursF_yes ns p q hq h, List.length_append]; simp
theorem poursN_no (ns : List Int) (p q : Nat) (hq : q < 6) (h : ¬ (p ≠ q ∧ 0 < canN (tub ns p) (tub ns q))) : poursN ns (p * 6 + (q + 1)) = poursN ns (p * 6 + q) := by
  unfold poursN; rw [poursF_no ns p q hq h]
theorem poursN_le (ns : List Int) : ∀ m, poursN ns m ≤ m
  | 0 => by unfold poursN; rw [poursF]; simp
  | m + 1 => by
    have := poursN_le ns m
    unfold poursN at this ⊢
    rw [poursF]
    split
    · rw [List.length_append]; simp; omega
    · omega
theorem pours0 (ns : List Int) : poursN ns 0 = 0 ∧ poursF ns 0 = [] := ⟨by unfold poursN; rw [poursF]; rfl, rfl⟩
def poursFA (ns : List Int) : List Int := if vR ns = true then poursF ns 36 else []
def poursNA (ns : List Int) : Nat := if vR ns = true then poursN ns 36 else 0
theorem poursNA_le (ns : List Int) : poursNA ns ≤ 36 := by
  unfold poursNA
  split
  · exact poursN_le ns 36
  · omega
def PoursPost (ns : List Int) (w : World) (e : Ending) (w' : World) : Prop := ∃ v : Value, e = .returned (.tuple #[v, .bool (vR ns)]) ∧ Prs w' w.heap.size v (poursNA ns) (poursFA ns) ∧ Kept w w'
/-- One pair more. -/
theorem prs_app {w0 w1 w3 : World} {c N : Nat} {fs : List Int} {x y : Int} {v v' : Value} {o : Obj} (GP : Prs w1 (c + 1) v N fs) (GB : Kept w0 w1) (hc : w0.heap.size ≤ c)
    (hown : w3.ownsRow (c + 1) 36 2 v' (N + 1) (ints fs ++ [.int .i64 x, .int .i64 y])) (hg : (w1.alloc o).grownBy w3 v.ownBlock) :
    Prs w3 (c + 1) v' (N + 1) (fs ++ [x, y]) ∧ Kept w0 w3 := by
  refine ⟨?_, (GB.alloc o).grown hg (GB.alloc o).size (fun j hj => by have := GP.own j hj; omega)⟩
  unfold Prs
  rw [ints_app]; exact hown

set_option maxHeartbeats 1600000 in
set_option maxRecDepth 100000 in
theorem l2Pours_any (ns : List Int) (w : World) (h24 : ns.length = 24) (hv : vR ns = true) :
    Calls Try.prog 78 #[row ns] w fun e w' => ∃ v : Value, e = .returned v ∧ Prs w' w.heap.size v (poursN ns 36) (poursF ns 36) ∧ Kept w w' := by
  obtain ⟨i0, hi, hz0, hz1, hz2⟩ := info_parts infoPair
  have HB := Lib.hid (((kept_refl w).alloc (.cells (ints ns).toArray 27)).alloc (.cells #[] 36))
  have H := (Has.box w 27 h24 (by omega)).alloc (.cells #[] 36)
  have P0 := Prs.none (w.alloc (.cells (ints ns).toArray 27)) (w.heap.size + 1) (by simp)
  rw [size1] at P0
  have P1 : Hid (Prs ((w.alloc (.cells (ints ns).toArray 27)).alloc (.cells #[] 36)) (w.heap.size + 1) (.slice (some ⟨w.heap.size + 1, 0, none⟩) 0 0) (poursN ns (0 * 6)) (poursF ns (0 * 6))) := Lib.hid (by rw [Nat.zero_mul, (pours0 ns).1, (pours0 ns).2]; exact P0)
  clear P0
  rw [row_ints]
  go_enter Try.func78, Try.ntmps78
  go_wp2_with fail
  have H24 := Lib.hid h24
  have HV := Lib.hid hv
  clear h24 hv
  generalize ((w.alloc (.cells (ints ns).toArray 27)).alloc (.cells #[] 36)) = W at *
  go_loopg [3, 4, 5] 6 (fun gk v i j wr => ∃ p : Nat, gk = 6 - p ∧ p ≤ 6 ∧ i = .int .i64 p ∧ Has wr w.heap.size ns 24 ∧ Hid (Prs wr (w.heap.size + 1) v (poursN ns (p * 6)) (poursF ns (p * 6))) ∧ Hid (Kept w wr))
  case atStart => exact ⟨0, rfl, by omega, rfl, H, P1, HB⟩
  case round =>
    obtain ⟨p, rfl, hp, rfl, GH, GP, GB⟩ := hrel
    by_cases hp6 : p < 6
    · have hpi : (p : Int) < 6 := by omega
      go_wp2_with fail
      go_loopg [3, 5] 6 (fun gk v j wr => ∃ q : Nat, gk = 6 - q ∧ q ≤ 6 ∧ j = .int .i64 q ∧ Has wr w.heap.size ns 24 ∧ Hid (Prs wr (w.heap.size + 1) v (poursN ns (p * 6 + q)) (poursF ns (p * 6 + q))) ∧ Hid (Kept w wr))
      case atStart => exact ⟨0, rfl, by omega, rfl, GH, GP, GB⟩
      case round =>
        obtain ⟨q, rfl, hq, rfl, KH, KP, KB⟩ := hrel
        by_cases hq6 : q < 6
        · have hqi : (q : Int) < 6 := by omega
          go_wp2_with (refine load_has rfl 27 _ rfl _ rfl ?_ 24 ?_ _ Try.underlying27 rfl ?_ ?_; rotate_left; (· (repeat (first | (with_reducible assumption) | ((with_reducible refine Has.box _ _ ?_ ?_) <;> (first | assumption | decide)) | (with_reducible refine Has.alloc ?_ _) | ((with_reducible refine Has.putOther ?_ _ _ ?_); rotate_left; omega; skip) | ((with_reducible refine Has.below ?_ ?_); rotate_left; assumption)))); (· kernel_rfl))
          refine (l2Can_any ns p q _ H24.out HV.out hp6 hq6).mono ?_
          rintro e w1 ⟨rfl, b1⟩
          have KH2 := KH.below b1
          have KP2 := Lib.hid (KP.out.below b1)
          have KB2 := Lib.hid (KB.out.call b1)
          clear KH KP KB b1
          have hN := poursN_le ns (p * 6 + q)
          have hbs := KB2.out.size
          by_cases hc : p ≠ q ∧ 0 < canN (tub ns p) (tub ns q)
          · rw [decide_eq_true hc]
            have Y := Lib.hid (poursF_yes ns p q hq6 hc)
            have Y2 := Lib.hid (poursN_yes ns p q hq6 hc)
            clear hc
            go_wp2_with (first | (at_builtin; refine wpList_append_own _ rfl _ _ 32 rfl (w.heap.size + 1) 36 i0 (.agg #[.int .i64 0, .int .i64 0]) 2 16 Try.underlying32 hi hz0 hz1 hz2 rfl (by decide) _ (poursN ns (p * 6 + q)) (ints (poursF ns (p * 6 + q))) rfl (World.ownsRow.alloc KP2.out _) ⟨w1.heap.size, 0, none⟩ 1 1 [.int .i64 (p : Int), .int .i64 (q : Int)] rfl rfl (cell_two_new _ _ _ _) (fun x hx => by simp at hx; rcases hx with rfl | rfl <;> rfl) (by unfold maxLen; omega) (by omega) (by simp; omega) ?_; intro v' w3 hown' hgrow3 hnil3))
            obtain ⟨A2, A3⟩ := prs_app KP2.out KB2.out (Nat.le_refl _) hown' hgrow3
            have A1 := (KH2.alloc (.cells #[.int .i64 (p : Int), .int .i64 (q : Int)] 36)).grown hgrow3 (Prs.own KP2.out)
            rw [← Y.out, ← Y2.out] at A2
            have B2 := Lib.hid A2
            have B3 : Hid (Kept w w3) := Lib.hid A3
            clear hown' hgrow3 hnil3 A2 A3
            go_wp2_with fail
            go_roundg (6 - (q + 1))
            case rel => exact ⟨q + 1, rfl, by omega, by go_num, A1, B2, B3⟩
            case measure => omega
          · rw [decide_eq_false hc]
            have Y := Lib.hid (poursF_no ns p q hq6 hc)
            have Y2 := Lib.hid (poursN_no ns p q hq6 hc)
            have B2 := Lib.hid (show Prs w1 (w.heap.size + 1) u3 (poursN ns (p * 6 + (q + 1))) (poursF ns (p * 6 + (q + 1))) by rw [Y.out, Y2.out]; exact KP2.out)
            clear hc
            go_wp2_with fail
            go_roundg (6 - (q + 1))
            case rel => exact ⟨q + 1, rfl, by omega, by go_num, KH2, B2, KB2⟩
            case measure => omega
        · obtain rfl : q = 6 := by omega
          have E : p * 6 + 6 = (p + 1) * 6 := by omega
          rw [E] at KP
          clear E
          go_wp2_with fail
          go_roundg (6 - (p + 1))
          case rel => exact ⟨p + 1, rfl, by omega, by go_num, KH, KP, KB⟩
          case measure => omega
    · obtain rfl : p = 6 := by omega
      go_wp2_with fail
      go_ret
      exact ⟨_, rfl, GP.out.mono (by omega), GB.out⟩

end Go.Proofs.Ytnldnjnnjfbhnab.base
end

section
namespace Go.Proofs.Ytnldnjnnjfbhnab.base
open Go.ChangeShapes Go.WideShapes Go.ChangeAt Go.RowKit
set_option linter.unusedVariables false
set_option linter.unusedSimpArgs false

theorem Has.grownNe {w w' : World} {c : Nat} {ns : List Int} {m : Nat} (H : Has w c ns m) {r : Option Nat} (hg : w.grownBy w' r) (hr : some c ≠ r) : Has w' c ns m := by
  have hb := hg.block c H.lt hr
  refine ⟨⟨fun j v hv => (World.cell?_of_block (a := ⟨c, 0 + j, Option.none⟩) hb).trans (H.holds.range j v hv), fun j hj => ?_⟩, H.len, H.pos⟩
  have := H.holds.there j hj
  rw [World.cell?_of_block (w' := w') (w := w) (a := ⟨c, 0 + j, Option.none⟩) hb, World.frozen?_of_block (w' := w') (w := w) (a := ⟨c, 0 + j, Option.none⟩) hb]
  exact this

set_option maxHeartbeats 1600000 in
set_option maxRecDepth 100000 in
theorem implPours (ns : List Int) (w : World) (h24 : ns.length = 24) :
    Calls Try.prog 55 #[row ns] w (PoursPost ns w) := by
  obtain ⟨i0, hi, hz0, hz1, hz2⟩ := info_parts infoPair
  have HB := Lib.hid (((kept_refl w).alloc (.cells (ints ns).toArray 27)).alloc (.cells #[] 36))
  have H := (Has.box w 27 h24 (by omega)).alloc (.cells #[] 36)
  have P0 := Prs.none (w.alloc (.cells (ints ns).toArray 27)) (w.heap.size + 1) (by simp)
  rw [size1] at P0
  have P1 := Lib.hid P0
  clear P0
  rw [row_ints]
  go_enter Try.func55, Try.ntmps55
  go_wp2_with (refine load_has rfl 27 _ rfl _ rfl ?_ 24 ?_ _ Try.underlying27 rfl ?_ ?_; rotate_left; (· (repeat (first | (with_reducible assumption) | ((with_reducible refine Has.box _ _ ?_ ?_) <;> (first | assumption | decide)) | (with_reducible refine Has.alloc ?_ _) | ((with_reducible refine Has.putOther ?_ _ _ ?_); rotate_left; omega; skip) | ((with_reducible refine Has.below ?_ ?_); rotate_left; assumption)))); (· kernel_rfl))
  refine (isRack_any ns _ h24).mono ?_
  rintro e w1 ⟨rfl, b1⟩
  have H1 := H.below b1
  have HB1 := Lib.hid (HB.out.call b1)
  have P2 := Lib.hid (P1.out.below b1)
  clear H HB P1 b1
  by_cases hv : vR ns = true
  · rw [hv]
    have HV := Lib.hid hv
    have H24 := Lib.hid h24
    have E1 := Lib.hid (show poursNA ns = poursN ns 36 by unfold poursNA; rw [if_pos hv])
    have E2 := Lib.hid (show poursFA ns = poursF ns 36 by unfold poursFA; rw [if_pos hv])
    have P3 : Hid (Prs w1 (w.heap.size + 1) (.slice (some ⟨w.heap.size + 1, 0, none⟩) 0 0) (poursN ns (0 * 6)) (poursF ns (0 * 6))) := Lib.hid (by rw [Nat.zero_mul, (pours0 ns).1, (pours0 ns).2]; exact P2.out)
    clear hv P2
    go_wp2_with (refine load_has rfl 25 _ rfl _ rfl ?_ 24 ?_ _ Try.underlying25 rfl ?_ ?_; rotate_left; (· (repeat (first | (with_reducible assumption) | ((with_reducible refine Has.box _ _ ?_ ?_) <;> (first | assumption | decide)) | (with_reducible refine Has.alloc ?_ _) | ((with_reducible refine Has.putOther ?_ _ _ ?_); rotate_left; omega; skip) | ((with_reducible refine Has.below ?_ ?_); rotate_left; assumption)))); (· kernel_rfl))
    clear h24
    go_loopg [4, 16] 6 (fun gk v i wr => ∃ p : Nat, gk = 6 - p ∧ p ≤ 6 ∧ i = .int .i64 p ∧ Has wr w.heap.size ns 24 ∧ Hid (Prs wr (w.heap.size + 1) v (poursN ns (p * 6)) (poursF ns (p * 6))) ∧ Hid (Kept w wr))
    case atStart => exact ⟨0, rfl, by omega, rfl, H1, P3, HB1⟩
    case round =>
      obtain ⟨p, rfl, hp, rfl, GH, GP, GB⟩ := hrel
      by_cases hp6 : p < 6
      · have hpi : (p : Int) < 6 := by omega
        have h4 := tub_len ns p H24.out hp6
        have g0 := indexTub ns p hp6
        have GH2 := GH.alloc (.cells (ints (tub ns p)).toArray 24)
        have GP2 := Lib.hid (GP.out.alloc (.cells (ints (tub ns p)).toArray 24))
        have GB2 := Lib.hid (GB.out.alloc (.cells (ints (tub ns p)).toArray 24))
        have GT := Has.box wr 24 h4 (by omega)
        have hlt := GB.out.size
        have hll := GH.lt
        have HLL := Lib.hid hll
        clear hll
        go_wp2_with (first | (refine store_new rfl 24 _ _ rfl _ _ _ rfl _ rfl _ rfl rfl ?_ ?_ ?_; (· (first | assumption | rfl)); (· kernel_rfl)) | (refine load_has rfl 25 _ rfl _ rfl ?_ 24 ?_ _ Try.underlying25 rfl ?_ ?_; rotate_left; (· (repeat (first | (with_reducible assumption) | ((with_reducible refine Has.box _ _ ?_ ?_) <;> (first | assumption | decide)) | (with_reducible refine Has.alloc ?_ _) | ((with_reducible refine Has.putOther ?_ _ _ ?_); rotate_left; omega; skip) | ((with_reducible refine Has.below ?_ ?_); rotate_left; assumption)))); (· kernel_rfl)))
        have KN0 : Hid (∀ k, u4.ownBlock = some k → k ≠ wr.heap.size) := Lib.hid (fun k hk => by have := (World.ownsRow.lt GP.out k hk).2; omega)
        clear g0 GH GP GB
        have GT2 := GT
        clear GT
        obtain ⟨B6, hB6⟩ : ∃ B6, B6 = wr.heap.size := ⟨_, rfl⟩
        rw [← hB6] at GT2 KN0
        have GT := GT2
        clear GT2
        rw [← hB6]
        clear hB6
        go_loopg [4, 22] 6 (fun gk v j wx => ∃ q : Nat, gk = 6 - q ∧ q ≤ 6 ∧ j = .int .i64 q ∧ Has wx w.heap.size ns 24 ∧ Has wx B6 (tub ns p) 4 ∧ Hid (Prs wx (w.heap.size + 1) v (poursN ns (p * 6 + q)) (poursF ns (p * 6 + q))) ∧ Hid (Kept w wx) ∧ Hid (∀ k, v.ownBlock = some k → k ≠ B6))
        case atStart => exact ⟨0, rfl, by omega, rfl, GH2, GT, GP2, GB2, KN0⟩
        case round =>
          obtain ⟨q, rfl, hq, rfl, KH, KT, KP, KB, KN⟩ := hrel
          by_cases hq6 : q < 6
          · have hqi : (q : Int) < 6 := by omega
            have k4 := tub_len ns q H24.out hq6
            have g1 := indexTub ns q hq6
            have KH2 := KH.alloc (.cells (ints (tub ns q)).toArray 24)
            have KT2 := KT.alloc (.cells (ints (tub ns q)).toArray 24)
            have KP2 := Lib.hid (KP.out.alloc (.cells (ints (tub ns q)).toArray 24))
            have KB2 := Lib.hid (KB.out.alloc (.cells (ints (tub ns q)).toArray 24))
            have hN := poursN_le ns (p * 6 + q)
            by_cases hpq : p = q
            · have e1 : ((p : Int) != (q : Int)) = false := by simp [hpq]
              have e2 : (p != q) = false := by simp [hpq]
              have Y := Lib.hid (poursF_no ns p q hq6 fun h => h.1 hpq)
              have Y2 := Lib.hid (poursN_no ns p q hq6 fun h => h.1 hpq)
              have B2 := Lib.hid (show Prs (wr.alloc (.cells (ints (tub ns q)).toArray 24)) (w.heap.size + 1) u4 (poursN ns (p * 6 + (q + 1))) (poursF ns (p * 6 + (q + 1))) by rw [Y.out, Y2.out]; exact KP2.out)
              clear hpq KH KT KP KB
              go_wp2_with (first | (refine store_new rfl 24 _ _ rfl _ _ _ rfl _ rfl _ rfl rfl ?_ ?_ ?_; (· (first | assumption | rfl)); (· kernel_rfl)))
              go_roundg (6 - (q + 1))
              case rel => exact ⟨q + 1, rfl, by omega, by go_num, KH2, KT2, B2, KB2, KN⟩
              case measure => omega
            · have e1 : ((p : Int) != (q : Int)) = true := by simp; omega
              have e2 : ((p : Int) == (q : Int)) = false := by simp; omega
              have e3 : (p != q) = true := by simp; omega
              have e4 : (p == q) = false := by simp; omega
              have vs := vR_tub HV.out p hp6
              have vt := vR_tub HV.out q hq6
              have HPQ := Lib.hid hpq
              clear hpq KH KT KP KB
              go_wp2_with (first | (refine store_new rfl 24 _ _ rfl _ _ _ rfl _ rfl _ rfl rfl ?_ ?_ ?_; (· (first | assumption | rfl)); (· kernel_rfl)) | (refine load_has rfl 24 _ rfl _ rfl ?_ 4 ?_ _ Try.underlying24 rfl ?_ ?_; rotate_left; (· (repeat (first | (with_reducible assumption) | ((with_reducible refine Has.box _ _ ?_ ?_) <;> (first | assumption | decide)) | (with_reducible refine Has.alloc ?_ _) | ((with_reducible refine Has.putOther ?_ _ _ ?_); rotate_left; omega; skip) | ((with_reducible refine Has.below ?_ ?_); rotate_left; assumption)))); (· kernel_rfl)))
              refine (pourable_any (tub ns p) (tub ns q) _ h4 k4 vs vt).mono ?_
              rintro e w2 ⟨rfl, b2⟩
              have KH3 := KH2.below b2
              have KT3 := KT2.below b2
              have KP3 := Lib.hid (KP2.out.below b2)
              have KB3 := Lib.hid (KB2.out.call b2)
              have hbs := KB3.out.size
              have htl := KT3.lt
              clear KH2 KT2 KP2 KB2 b2
              by_cases hc : 0 < canN (tub ns p) (tub ns q)
              · have Y := Lib.hid (poursF_yes ns p q hq6 ⟨HPQ.out, hc⟩)
                have Y2 := Lib.hid (poursN_yes ns p q hq6 ⟨HPQ.out, hc⟩)
                have g2 : decide ((0 : Int) < ((canN (tub ns p) (tub ns q) : Nat) : Int)) = true := by simp; omega
                have g3 : decide (0 < canN (tub ns p) (tub ns q)) = true := by simp; omega
                clear hc
                go_wp2_with (first | (at_builtin; refine wpList_append_lies _ rfl _ _ 32 rfl (w.heap.size + 1) 36 i0 (.agg #[.int .i64 0, .int .i64 0]) 2 16 Try.underlying32 hi hz0 hz1 hz2 rfl (by decide) _ (poursN ns (p * 6 + q)) (ints (poursF ns (p * 6 + q))) rfl (World.ownsRow.alloc KP3.out _) ⟨w2.heap.size, 0, none⟩ 1 1 [.int .i64 (p : Int), .int .i64 (q : Int)] rfl rfl (cell_two_new _ _ _ _) (fun x hx => by simp at hx; rcases hx with rfl | rfl <;> rfl) (by decide) (by unfold maxLen; omega) (by omega) (by simp; omega) _ rfl ?_; intro g' cap' w3 hown' hgrow3 hlie hlt3))
                obtain ⟨A2, A3⟩ := prs_app KP3.out KB3.out (Nat.le_refl _) hown' hgrow3
                have A1 := (KH3.alloc (.cells #[.int .i64 (p : Int), .int .i64 (q : Int)] 36)).grown hgrow3 (Prs.own KP3.out)
                have A0 := (KT3.alloc (.cells #[.int .i64 (p : Int), .int .i64 (q : Int)] 36)).grownNe hgrow3 (fun e => KN.out B6 e.symm rfl)
                have KN2 : Hid (∀ k, (Value.slice (some ⟨g', 0, none⟩) (poursN ns (p * 6 + q) + 1) cap').ownBlock = some k → k ≠ B6) := Lib.hid (fun k hk => by
                  simp only [Value.ownBlock, Option.some.injEq] at hk
                  subst hk
                  rcases hlie with h1 | h1
                  · exact KN.out _ h1
                  · rw [size1] at h1; omega)
                rw [← Y.out, ← Y2.out] at A2
                have B2 := Lib.hid A2
                have B3 : Hid (Kept w w3) := Lib.hid A3
                clear hown' hgrow3 hlie hlt3 A2 A3
                go_wp2_with fail
                go_roundg (6 - (q + 1))
                case rel => exact ⟨q + 1, rfl, by omega, by go_num, A1, A0, by rw [← Y2.out]; exact B2, B3, by rw [← Y2.out]; rw [← Y2.out] at KN2; exact KN2⟩
                case measure => omega
              · have Y := Lib.hid (poursF_no ns p q hq6 fun h => hc h.2)
                have Y2 := Lib.hid (poursN_no ns p q hq6 fun h => hc h.2)
                have B2 := Lib.hid (show Prs w2 (w.heap.size + 1) u4 (poursN ns (p * 6 + (q + 1))) (poursF ns (p * 6 + (q + 1))) by rw [Y.out, Y2.out]; exact KP3.out)
                have g2 : decide ((0 : Int) < ((canN (tub ns p) (tub ns q) : Nat) : Int)) = false := by simp; omega
                have g3 : decide (0 < canN (tub ns p) (tub ns q)) = false := by simp; omega
                have g4 : canN (tub ns p) (tub ns q) = 0 := by omega
                rw [g4]
                clear hc g2 g3 g4
                go_wp2_with fail
                go_roundg (6 - (q + 1))
                case rel => exact ⟨q + 1, rfl, by omega, by go_num, KH3, KT3, B2, KB3, KN⟩
                case measure => omega
          · obtain rfl : q = 6 := by omega
            have E : p * 6 + 6 = (p + 1) * 6 := by omega
            rw [E] at KP
            clear E
            go_wp2_with fail
            go_roundg (6 - (p + 1))
            case rel => exact ⟨p + 1, rfl, by omega, by go_num, KH, KP, KB⟩
            case measure => omega
      · obtain rfl : p = 6 := by omega
        go_wp2_with fail
        go_ret2
        exact ⟨_, by rw [HV.out]; rfl, by rw [E1.out, E2.out]; exact GP.out.mono (by omega), GB.out⟩
  · have hf : vR ns = false := by simpa using hv
    have E1 := Lib.hid (show poursNA ns = 0 by unfold poursNA; rw [if_neg hv])
    have E2 := Lib.hid (show poursFA ns = [] by unfold poursFA; rw [if_neg hv])
    rw [hf]
    have HV := Lib.hid hf
    clear hf hv
    go_wp2_with fail
    go_ret2
    exact ⟨.slice (some ⟨w.heap.size + 1, 0, none⟩) 0 0, by rw [HV.out]; rfl, by rw [E1.out, E2.out]; exact P2.out.mono (by omega), HB1.out⟩
end Go.Proofs.Ytnldnjnnjfbhnab.base
end
