/-
  How many layers have each color, on both sides, walked.
-/
import Derived.Test.YtemiljokdedidacDoors
import Derived.Test.YtemiljokdedidacRackTo
namespace Go.Proofs.Ytemiljokdedidac.base
open Go.ChangeShapes Go.WideShapes Go.ChangeAt Go.RowKit
set_option linter.unusedVariables false
set_option linter.unusedSimpArgs false

def z6 : List Int := [0, 0, 0, 0, 0, 0]
def bump (cs : List Int) (c : Nat) : List Int := cs.set c (cs.getD c 0 + 1)
def cntUp (ns : List Int) (k : Nat) : List Int := (ns.take k).foldl (fun cs x => bump cs x.toNat) z6
theorem cntUp_step (ns : List Int) (k : Nat) (h : k < ns.length) : cntUp ns (k + 1) = bump (cntUp ns k) (ns.getD k 0).toNat := by
  unfold cntUp
  rw [List.take_succ_eq_append_getElem h, List.foldl_append, List.getD_eq_getElem?_getD, List.getElem?_eq_getElem h]; rfl
theorem bump_len (cs : List Int) (c : Nat) : (bump cs c).length = cs.length := by unfold bump; rw [List.length_set]
theorem cnt_all (ns : List Int) (k : Nat) : (cntUp ns k).length = 6 ∧ ∀ c, 0 ≤ (cntUp ns k).getD c 0 ∧ (cntUp ns k).getD c 0 ≤ k := by
  unfold cntUp
  suffices ∀ (l : List Int) (cs : List Int) (n : Nat), cs.length = 6 → (∀ c, 0 ≤ cs.getD c 0 ∧ cs.getD c 0 ≤ n) →
      (l.foldl (fun cs x => bump cs x.toNat) cs).length = 6 ∧ ∀ c, 0 ≤ (l.foldl (fun cs x => bump cs x.toNat) cs).getD c 0 ∧ (l.foldl (fun cs x => bump cs x.toNat) cs).getD c 0 ≤ ((n + l.length : Nat) : Int) by
    have h := this (ns.take k) z6 0 rfl (fun c => by
      unfold z6
      rcases c with _ | _ | _ | _ | _ | _ | c <;> simp)
    refine ⟨h.1, fun c => ⟨(h.2 c).1, ?_⟩⟩
    have := (h.2 c).2
    have hl : (ns.take k).length ≤ k := by rw [List.length_take]; omega
    omega
  intro l
  induction l with
  | nil => intro cs n h1 h2; exact ⟨h1, fun c => ⟨(h2 c).1, by have := (h2 c).2; simpa using this⟩⟩
  | cons x r ih =>
    intro cs n h1 h2
    have hb : ∀ c, 0 ≤ (bump cs x.toNat).getD c 0 ∧ (bump cs x.toNat).getD c 0 ≤ ((n + 1 : Nat) : Int) := fun c => by
      unfold bump
      rw [List.getD_eq_getElem?_getD, List.getElem?_set]
      by_cases e : x.toNat = c
      · subst e
        by_cases hl : x.toNat < cs.length
        · simp only [hl, if_true, Option.getD_some]
          have := h2 x.toNat; omega
        · simp only [hl, if_true, if_false, Option.getD_none]; omega
      · rw [if_neg e, ← List.getD_eq_getElem?_getD]
        have := h2 c; omega
    have := ih (bump cs x.toNat) (n + 1) (by rw [bump_len]; exact h1) hb
    refine ⟨this.1, fun c => ⟨(this.2 c).1, ?_⟩⟩
    have h := (this.2 c).2
    simp only [List.foldl_cons, List.length_cons]
    have e : ((n + 1 + r.length : Nat) : Int) = ((n + (r.length + 1) : Nat) : Int) := by omega
    rw [← e]; exact h
def countA (ns : List Int) : List Int := if vR ns = true then cntUp ns 24 else z6
theorem countA_len (ns : List Int) : (countA ns).length = 6 := by
  unfold countA
  by_cases h : vR ns = true
  · rw [if_pos h]; exact (cnt_all ns 24).1
  · rw [if_neg h]; rfl
theorem Has.zero6 (w : World) (T : TypeId) : Has (w.alloc (.cells #[.int .i64 0, .int .i64 0, .int .i64 0, .int .i64 0, .int .i64 0, .int .i64 0] T)) w.heap.size z6 6 := Has.box (ns := z6) w T rfl (by decide)
/-- A layer of a valid rack is a color's number; its count goes up. -/
theorem count_layer (ns : List Int) (h24 : ns.length = 24) (hv : vR ns = true) (p q : Nat) (hp : p < 6) (hq : q < 4) :
    ∃ c : Nat, c < 6 ∧ (tub ns p).getD q 0 = (c : Int) ∧ cntUp ns (p * 4 + q + 1) = (cntUp ns (p * 4 + q)).set c ((cntUp ns (p * 4 + q)).getD c 0 + 1) := by
  have h4 := tub_len ns p h24 hp
  have hk := (known_iff h4).1 (by have := vR_tub hv p hp; unfold vT at this; exact (Bool.and_eq_true_iff.1 this).1) q hq
  refine ⟨((tub ns p).getD q 0).toNat, by omega, by omega, ?_⟩
  rw [cntUp_step ns (p * 4 + q) (by omega), tub_getD ns p q hq]; rfl

set_option maxHeartbeats 1600000 in
theorem implCount (ns : List Int) (w : World) (h24 : ns.length = 24) :
    Calls Try.prog 85 #[row ns] w fun e w' => e = .returned (.tuple #[.agg (ints (countA ns)).toArray, .bool (vR ns)]) ∧ Kept w w' := by
  have HB := Lib.hid ((((kept_refl w).alloc (.cells (ints ns).toArray 42)).alloc (.cells #[.int .i64 0, .int .i64 0, .int .i64 0, .int .i64 0, .int .i64 0, .int .i64 0] 22)).alloc (.cells #[.int .i64 0, .int .i64 0, .int .i64 0, .int .i64 0, .int .i64 0, .int .i64 0] 22))
  have H := ((Has.box w 42 h24 (by omega)).alloc (.cells #[.int .i64 0, .int .i64 0, .int .i64 0, .int .i64 0, .int .i64 0, .int .i64 0] 22)).alloc (.cells #[.int .i64 0, .int .i64 0, .int .i64 0, .int .i64 0, .int .i64 0, .int .i64 0] 22)
  have Z := ((Has.zero6 (w.alloc (.cells (ints ns).toArray 42)) 22).at (size1 _ _)).alloc (.cells #[.int .i64 0, .int .i64 0, .int .i64 0, .int .i64 0, .int .i64 0, .int .i64 0] 22)
  have Y := (Has.zero6 ((w.alloc (.cells (ints ns).toArray 42)).alloc (.cells #[.int .i64 0, .int .i64 0, .int .i64 0, .int .i64 0, .int .i64 0, .int .i64 0] 22)) 22).at (c := w.heap.size + 1 + 1) (by simp)
  rw [row_ints]
  go_enter Try.func85, Try.ntmps85
  go_wp2_with (refine load_has rfl 42 _ rfl _ rfl ?_ 24 ?_ _ Try.underlying42 rfl ?_ ?_; rotate_left; (· (repeat (first | (with_reducible assumption) | ((with_reducible refine Has.box _ _ ?_ ?_) <;> (first | assumption | decide)) | (with_reducible refine Has.alloc ?_ _) | ((with_reducible refine Has.putOther ?_ _ _ ?_); rotate_left; omega; skip) | ((with_reducible refine Has.below ?_ ?_); rotate_left; assumption)))); (· kernel_rfl))
  refine (isRack_any ns _ h24).mono ?_
  rintro e w1 ⟨rfl, b1⟩
  have H1 := H.below b1
  have Z1 := Z.below b1
  have Y1 := Y.below b1
  have HB1 := Lib.hid (HB.out.call b1)
  clear H HB Z Y b1
  by_cases hv : vR ns = true
  · rw [hv]
    have HV := Lib.hid hv
    have HL := Lib.hid h24
    clear hv
    go_wp2_with (refine load_has rfl 38 _ rfl _ rfl ?_ 24 ?_ _ Try.underlying38 rfl ?_ ?_; rotate_left; (· (repeat (first | (with_reducible assumption) | ((with_reducible refine Has.box _ _ ?_ ?_) <;> (first | assumption | decide)) | (with_reducible refine Has.alloc ?_ _) | ((with_reducible refine Has.putOther ?_ _ _ ?_); rotate_left; omega; skip) | ((with_reducible refine Has.below ?_ ?_); rotate_left; assumption)))); (· kernel_rfl))
    clear h24 H1
    go_loopg [16] 6 (fun gk i wr => ∃ p : Nat, gk = 6 - p ∧ p ≤ 6 ∧ i = .int .i64 p ∧ Has wr (w.heap.size + 1 + 1) (cntUp ns (p * 4)) 6 ∧ Has wr (w.heap.size + 1) z6 6 ∧ Hid (Kept w wr))
    case atStart => exact ⟨0, rfl, by omega, rfl, Y1, Z1, HB1⟩
    case round =>
      obtain ⟨p, rfl, hp, rfl, GY, GZ, GB⟩ := hrel
      by_cases hp6 : p < 6
      · have hpi : (p : Int) < 6 := by omega
        have g0 := indexTub ns p hp6
        have h4 := tub_len ns p HL.out hp6
        have GY2 := GY.alloc (.cells (ints (tub ns p)).toArray 37)
        have GZ2 := GZ.alloc (.cells (ints (tub ns p)).toArray 37)
        have GB2 := Lib.hid (GB.out.alloc (.cells (ints (tub ns p)).toArray 37))
        have gi := index4 37 Try.underlying37 (tub ns p) h4
        have HG := Lib.hid gi
        clear gi
        go_wp2_with (first | (refine store_new rfl 37 _ _ rfl _ _ _ rfl _ rfl _ rfl rfl ?_ ?_ ?_; (· (first | assumption | rfl)); (· kernel_rfl)) | (refine load_has rfl 37 _ rfl _ rfl ?_ 4 ?_ _ Try.underlying37 rfl ?_ ?_; rotate_left; (· (repeat (first | (with_reducible assumption) | ((with_reducible refine Has.box _ _ ?_ ?_) <;> (first | assumption | decide)) | (with_reducible refine Has.alloc ?_ _) | ((with_reducible refine Has.putOther ?_ _ _ ?_); rotate_left; omega; skip) | ((with_reducible refine Has.below ?_ ?_); rotate_left; assumption)))); (· kernel_rfl)))
        clear g0 GY GZ GB
        go_loopg [20] 4 (fun gk i wr => ∃ q : Nat, gk = 4 - q ∧ q ≤ 4 ∧ i = .int .i64 q ∧ Has wr (w.heap.size + 1 + 1) (cntUp ns (p * 4 + q)) 6 ∧ Has wr (w.heap.size + 1) z6 6 ∧ Hid (Kept w wr))
        case atStart => exact ⟨0, rfl, by omega, rfl, GY2, GZ2, GB2⟩
        case round =>
          obtain ⟨q, rfl, hq, rfl, KY, KZ, KB⟩ := hrel
          by_cases hq4 : q < 4
          · have g1 := HG.out q hq4
            obtain ⟨c, hc6, hce, hcs⟩ := count_layer ns HL.out HV.out p q hp6 hq4
            rw [hce] at g1
            have cb := (cnt_all ns (p * 4 + q)).2 c
            have c1 := KY.cell c hc6
            have f1 := KY.free c hc6
            have hc6' : (c : Int) < 6 := by omega
            have S1 := KY.set c ((cntUp ns (p * 4 + q)).getD c 0 + 1) hc6
            rw [← hcs] at S1
            have S2 := Lib.hid S1
            have S3 := Lib.hid (KZ.setOther (b' := w.heap.size + 1 + 1) c (.int .i64 ((cntUp ns (p * 4 + q)).getD c 0 + 1)) (by omega))
            have S4 := Lib.hid (KB.out.set (b := w.heap.size + 1 + 1) (by omega) c (.int .i64 ((cntUp ns (p * 4 + q)).getD c 0 + 1)))
            have cb0 := cb.1
            have cb1 : (cntUp ns (p * 4 + q)).getD c 0 ≤ 24 := by omega
            clear cb hce hcs S1 KY KZ KB
            generalize (cntUp ns (p * 4 + q)).getD c 0 = v at *
            go_wp2_with fail
            go_roundg (4 - (q + 1))
            case rel => exact ⟨q + 1, rfl, by omega, by go_num, S2.out, S3.out, S4⟩
            case measure => omega
          · obtain rfl : q = 4 := by omega
            have E : p * 4 + 4 = (p + 1) * 4 := by omega
            rw [E] at KY
            clear E
            go_wp2_with fail
            go_roundg (6 - (p + 1))
            case rel => exact ⟨p + 1, rfl, by omega, by go_num, KY, KZ, KB⟩
            case measure => omega
      · obtain rfl : p = 6 := by omega
        have hl := (cnt_all ns 24).1
        have S1 := Lib.hid (GZ.putAll (cntUp ns 24) hl)
        have S2 := Lib.hid (GB.out.puts (b := w.heap.size + 1) (by omega) 0 (ints (cntUp ns 24)))
        have E : (6 * 4 : Nat) = 24 := rfl
        rw [E] at GY
        clear E
        go_wp2_with (first | (refine load_has rfl 22 _ rfl _ rfl ?_ 6 ?_ _ Try.underlying22 rfl ?_ ?_; rotate_left; (· (repeat (first | (with_reducible assumption) | ((with_reducible refine Has.box _ _ ?_ ?_) <;> (first | assumption | decide)) | (with_reducible refine Has.alloc ?_ _) | ((with_reducible refine Has.putOther ?_ _ _ ?_); rotate_left; omega; skip) | ((with_reducible refine Has.below ?_ ?_); rotate_left; assumption)))); (· kernel_rfl)) | (refine store_at rfl 22 _ _ rfl _ _ rfl rfl ?_ 6 ?_ ?_ ?_ ?_; rotate_left; (· (repeat (first | (with_reducible assumption) | ((with_reducible refine Has.box _ _ ?_ ?_) <;> (first | assumption | decide)) | (with_reducible refine Has.alloc ?_ _) | ((with_reducible refine Has.putOther ?_ _ _ ?_); rotate_left; omega; skip) | ((with_reducible refine Has.below ?_ ?_); rotate_left; assumption)))); (· (first | assumption | rfl)); (· kernel_rfl)))
        exact bodyPost_ret (res_has1 rfl _ _ (w.heap.size + 1) (cntUp ns 24) 6 _ (.bool true) rfl rfl S1.out Try.underlying22 rfl (by kernel_rfl)) rfl ⟨by unfold countA; rw [if_pos HV.out, HV.out], S2.out⟩
  · have hf : vR ns = false := by simpa using hv
    rw [hf]
    have HF := Lib.hid hf
    clear hf hv
    have S1 := Lib.hid (Z1.putAll z6 rfl)
    have S2 := Lib.hid (HB1.out.puts (b := w.heap.size + 1) (by omega) 0 (ints z6))
    have hz : z6.length = 6 := rfl
    go_wp2_with (first | (refine load_has rfl 22 _ rfl _ rfl ?_ 6 ?_ _ Try.underlying22 rfl ?_ ?_; rotate_left; (· (repeat (first | (with_reducible assumption) | ((with_reducible refine Has.box _ _ ?_ ?_) <;> (first | assumption | decide)) | (with_reducible refine Has.alloc ?_ _) | ((with_reducible refine Has.putOther ?_ _ _ ?_); rotate_left; omega; skip) | ((with_reducible refine Has.below ?_ ?_); rotate_left; assumption)))); (· kernel_rfl)) | (refine store_at rfl 22 _ _ rfl _ _ rfl rfl ?_ 6 ?_ ?_ ?_ ?_; rotate_left; (· (repeat (first | (with_reducible assumption) | ((with_reducible refine Has.box _ _ ?_ ?_) <;> (first | assumption | decide)) | (with_reducible refine Has.alloc ?_ _) | ((with_reducible refine Has.putOther ?_ _ _ ?_); rotate_left; omega; skip) | ((with_reducible refine Has.below ?_ ?_); rotate_left; assumption)))); (· (first | assumption | rfl)); (· kernel_rfl)))
    exact bodyPost_ret (res_has1 rfl _ _ (w.heap.size + 1) z6 6 _ (.bool false) rfl rfl S1.out Try.underlying22 rfl (by kernel_rfl)) rfl ⟨by unfold countA; rw [HF.out]; rfl, S2.out⟩

set_option maxHeartbeats 1600000 in
theorem l2Counts_any (ns : List Int) (w : World) (h24 : ns.length = 24) (hv : vR ns = true) :
    Calls Try.prog 41 #[row ns] w fun e w' => e = .returned (.agg (ints (cntUp ns 24)).toArray) ∧ Kept w w' := by
  have HB := Lib.hid ((((kept_refl w).alloc (.cells (ints ns).toArray 42)).alloc (.cells #[.int .i64 0, .int .i64 0, .int .i64 0, .int .i64 0, .int .i64 0, .int .i64 0] 22)).alloc (.cells #[.int .i64 0, .int .i64 0, .int .i64 0, .int .i64 0, .int .i64 0, .int .i64 0] 22))
  have H := ((Has.box w 42 h24 (by omega)).alloc (.cells #[.int .i64 0, .int .i64 0, .int .i64 0, .int .i64 0, .int .i64 0, .int .i64 0] 22)).alloc (.cells #[.int .i64 0, .int .i64 0, .int .i64 0, .int .i64 0, .int .i64 0, .int .i64 0] 22)
  have Z := ((Has.zero6 (w.alloc (.cells (ints ns).toArray 42)) 22).at (size1 _ _)).alloc (.cells #[.int .i64 0, .int .i64 0, .int .i64 0, .int .i64 0, .int .i64 0, .int .i64 0] 22)
  have Y := (Has.zero6 ((w.alloc (.cells (ints ns).toArray 42)).alloc (.cells #[.int .i64 0, .int .i64 0, .int .i64 0, .int .i64 0, .int .i64 0, .int .i64 0] 22)) 22).at (c := w.heap.size + 1 + 1) (by simp)
  rw [row_ints]
  go_enter Try.func41, Try.ntmps41
  go_wp2_with fail
  have HV := Lib.hid hv
  have HL := Lib.hid h24
  clear hv h24
  generalize (((w.alloc (.cells (ints ns).toArray 42)).alloc (.cells #[.int .i64 0, .int .i64 0, .int .i64 0, .int .i64 0, .int .i64 0, .int .i64 0] 22)).alloc (.cells #[.int .i64 0, .int .i64 0, .int .i64 0, .int .i64 0, .int .i64 0, .int .i64 0] 22)) = W at *
  go_loopg [4, 5] 6 (fun gk i kk wr => ∃ p : Nat, gk = 6 - p ∧ p ≤ 6 ∧ i = .int .i64 p ∧ Has wr w.heap.size ns 24 ∧ Has wr (w.heap.size + 1 + 1) (cntUp ns (p * 4)) 6 ∧ Has wr (w.heap.size + 1) z6 6 ∧ Hid (Kept w wr))
  case atStart => exact ⟨0, rfl, by omega, rfl, H, Y, Z, HB⟩
  case round =>
    obtain ⟨p, rfl, hp, rfl, GH, GY, GZ, GB⟩ := hrel
    by_cases hp6 : p < 6
    · have hpi : (p : Int) < 6 := by omega
      go_wp2_with fail
      go_loopg [5] 4 (fun gk kk wr => ∃ q : Nat, gk = 4 - q ∧ q ≤ 4 ∧ kk = .int .i64 q ∧ Has wr w.heap.size ns 24 ∧ Has wr (w.heap.size + 1 + 1) (cntUp ns (p * 4 + q)) 6 ∧ Has wr (w.heap.size + 1) z6 6 ∧ Hid (Kept w wr))
      case atStart => exact ⟨0, rfl, by omega, rfl, GH, GY, GZ, GB⟩
      case round =>
        obtain ⟨q, rfl, hq, rfl, KH, KY, KZ, KB⟩ := hrel
        by_cases hq4 : q < 4
        · have hqi : (q : Int) < 4 := by omega
          have c0 := KH.rackCell p q hp6 hq4
          obtain ⟨c, hc6, hce, hcs⟩ := count_layer ns HL.out HV.out p q hp6 hq4
          rw [hce] at c0
          have cb := (cnt_all ns (p * 4 + q)).2 c
          have c1 := KY.cell c hc6
          have f1 := KY.free c hc6
          have hc6' : (c : Int) < 6 := by omega
          have S1 := KY.set c ((cntUp ns (p * 4 + q)).getD c 0 + 1) hc6
          rw [← hcs] at S1
          have S2 := Lib.hid S1
          have S3 := Lib.hid (KZ.setOther (b' := w.heap.size + 1 + 1) c (.int .i64 ((cntUp ns (p * 4 + q)).getD c 0 + 1)) (by omega))
          have S5 := Lib.hid (KH.setOther (b' := w.heap.size + 1 + 1) c (.int .i64 ((cntUp ns (p * 4 + q)).getD c 0 + 1)) (by omega))
          have S4 := Lib.hid (KB.out.set (b := w.heap.size + 1 + 1) (by omega) c (.int .i64 ((cntUp ns (p * 4 + q)).getD c 0 + 1)))
          have cb0 := cb.1
          have cb1 : (cntUp ns (p * 4 + q)).getD c 0 ≤ 24 := by omega
          clear cb hce hcs S1 KH KY KZ KB
          generalize (cntUp ns (p * 4 + q)).getD c 0 = v at *
          go_wp2_with fail
          go_roundg (4 - (q + 1))
          case rel => exact ⟨q + 1, rfl, by omega, by go_num, S5.out, S2.out, S3.out, S4⟩
          case measure => omega
        · obtain rfl : q = 4 := by omega
          have E : p * 4 + 4 = (p + 1) * 4 := by omega
          rw [E] at KY
          clear E
          go_wp2_with fail
          go_roundg (6 - (p + 1))
          case rel => exact ⟨p + 1, rfl, by omega, by go_num, KH, KY, KZ, KB⟩
          case measure => omega
    · obtain rfl : p = 6 := by omega
      have hl := (cnt_all ns 24).1
      have S1 := Lib.hid (GZ.putAll (cntUp ns 24) hl)
      have S2 := Lib.hid (GB.out.puts (b := w.heap.size + 1) (by omega) 0 (ints (cntUp ns 24)))
      have E : (6 * 4 : Nat) = 24 := rfl
      rw [E] at GY
      clear E
      go_wp2_with (first | (refine load_has rfl 22 _ rfl _ rfl ?_ 6 ?_ _ Try.underlying22 rfl ?_ ?_; rotate_left; (· (repeat (first | (with_reducible assumption) | ((with_reducible refine Has.box _ _ ?_ ?_) <;> (first | assumption | decide)) | (with_reducible refine Has.alloc ?_ _) | ((with_reducible refine Has.putOther ?_ _ _ ?_); rotate_left; omega; skip) | ((with_reducible refine Has.below ?_ ?_); rotate_left; assumption)))); (· kernel_rfl)) | (refine store_at rfl 22 _ _ rfl _ _ rfl rfl ?_ 6 ?_ ?_ ?_ ?_; rotate_left; (· (repeat (first | (with_reducible assumption) | ((with_reducible refine Has.box _ _ ?_ ?_) <;> (first | assumption | decide)) | (with_reducible refine Has.alloc ?_ _) | ((with_reducible refine Has.putOther ?_ _ _ ?_); rotate_left; omega; skip) | ((with_reducible refine Has.below ?_ ?_); rotate_left; assumption)))); (· (first | assumption | rfl)); (· kernel_rfl)))
      exact bodyPost_ret (res_has rfl _ _ (w.heap.size + 1) (cntUp ns 24) 6 _ rfl S1.out Try.underlying22 rfl (by kernel_rfl)) rfl ⟨rfl, S2.out⟩

end Go.Proofs.Ytemiljokdedidac.base
