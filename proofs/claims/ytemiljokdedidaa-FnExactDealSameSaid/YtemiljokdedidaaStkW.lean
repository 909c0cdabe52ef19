/-
  Stocks: their sizes and in how many orders they can be put, on both sides, walked.
-/
import Derived.Test.YtemiljokdedidaaRkM
import Derived.Test.YtemiljokdedidaaVw
import Derived.Deep.Cut
import Derived.Deep.CutRange
namespace Go.Proofs.Ytemiljokdedidaa.base
open Go.ChangeShapes Go.WideShapes Go.ChangeAt Go.RowKit
set_option linter.unusedVariables false
set_option linter.unusedSimpArgs false

theorem plUp_max (s : List Int) : ∀ c, plUp (s.map fun x => max x 0) c = plUp s c
  | 0 => rfl
  | c + 1 => by
    rw [plUp, plUp, plUp_max s c]
    congr 1
    rw [List.getD_eq_getElem?_getD, List.getElem?_map, List.getD_eq_getElem?_getD]
    cases s[c]? with
    | none => rfl
    | some x => simp; omega
theorem mulUp_max (s : List Int) : ∀ c, mulUp (s.map fun x => max x 0) c = mulUp s c
  | 0 => rfl
  | c + 1 => by
    rw [mulUp, mulUp, mulUp_max s c, plUp_max]
    congr 2
    rw [List.getD_eq_getElem?_getD, List.getElem?_map, List.getD_eq_getElem?_getD]
    cases s[c]? with
    | none => rfl
    | some x => simp; omega
theorem mulUp_bound (s : List Int) (h6 : s.length = 6) (hp : plUp s 6 ≤ 18) (c : Nat) (hc : c ≤ 6) : mulUp s c ≤ 101559956668416 := by
  have hl : (s.map fun x => max x 0).length = 6 := by rw [List.length_map]; exact h6
  have hn : ∀ j, j < 6 → 0 ≤ (s.map fun x => max x 0).getD j 0 := fun j hj => by
    rw [List.getD_eq_getElem?_getD, List.getElem?_map, List.getElem?_eq_getElem (by omega)]; simp; omega
  have h1 := ordA_le (plUp s 6) _ hl hn (plUp_max s 6)
  rw [ordA_of hn, mulUp_max] at h1
  have h2 := mulUp_le s hc
  have h3 : 6 ^ plUp s 6 ≤ 6 ^ 18 := Nat.pow_le_pow_right (by omega) hp
  have h4 : (6 : Nat) ^ 18 = 101559956668416 := by decide
  omega
theorem plUp_le (s : List Int) {a b : Nat} (h : a ≤ b) : plUp s a ≤ plUp s b := by
  induction b with
  | zero => obtain rfl : a = 0 := by omega
            exact Nat.le_refl _
  | succ b ih =>
    by_cases e : a = b + 1
    · subst e; exact Nat.le_refl _
    · have := ih (by omega)
      rw [plUp]; omega
/-- One layer more: what the machine reckons. -/
theorem mul_step (s : List Int) (h6 : s.length = 6) (hp : plUp s 6 ≤ 18) (c k q : Nat) (hc : c < 6) (hk : s.getD c 0 = (k : Int)) (hq : q < k) :
    ∃ X Z Y pl : Nat, X = mulUp s c * bin (plUp s c) q ∧ Y = mulUp s c * bin (plUp s c) (q + 1) ∧ pl = plUp s c + q ∧ pl + 1 ≤ 18
      ∧ IntKind.i64.wrap ((X : Int) * ((pl : Int) + 1)) = (Z : Int) ∧ Int.tdiv (Z : Int) ((q : Int) + 1) = (Y : Int) ∧ IntKind.i64.wrap (Y : Int) = (Y : Int) := by
  have hb : mulUp s c * bin (plUp s c) (q + 1) ≤ 101559956668416 := by
    have h1 := mulUp_bound s h6 hp (c + 1) (by omega)
    rw [mulUp, hk, Int.toNat_natCast] at h1
    have h2 := bin_le (plUp s c) (show q + 1 ≤ k by omega)
    exact Nat.le_trans (Nat.mul_le_mul_left _ h2) h1
  have hpl : plUp s c + q + 1 ≤ 18 := by
    have := plUp_le s (show c + 1 ≤ 6 by omega)
    rw [plUp, hk, Int.toNat_natCast] at this
    omega
  have hs := bin_step (plUp s c) q
  have hz : mulUp s c * bin (plUp s c) q * (plUp s c + q + 1) = mulUp s c * bin (plUp s c) (q + 1) * (q + 1) := by
    rw [Nat.mul_assoc, hs, Nat.mul_assoc]
  have hz2 : mulUp s c * bin (plUp s c) q * (plUp s c + q + 1) ≤ 101559956668416 * 18 := by
    rw [hz]; exact Nat.mul_le_mul hb (by omega)
  refine ⟨_, mulUp s c * bin (plUp s c) q * (plUp s c + q + 1), _, _, rfl, rfl, rfl, hpl, ?_, ?_, ?_⟩
  · rw [show ((mulUp s c * bin (plUp s c) q : Nat) : Int) * (((plUp s c + q : Nat) : Int) + 1) = ((mulUp s c * bin (plUp s c) q * (plUp s c + q + 1) : Nat) : Int) by rw [Int.natCast_mul _ (plUp s c + q + 1)]; rfl]
    exact IntWalk.i64_in _ (by omega)
  · have e : ((q : Int) + 1) = ((q + 1 : Nat) : Int) := rfl
    rw [hz, e]
    show (((mulUp s c * bin (plUp s c) (q + 1) * (q + 1)) / (q + 1) : Nat) : Int) = _
    rw [Nat.mul_div_cancel _ (by omega)]
  · exact IntWalk.i64_in _ (by omega)

theorem without_any (s : List Int) (c : Nat) (w : World) (h6 : s.length = 6) (hc : c < 6) (hb : -1000 ≤ s.getD c 0 ∧ s.getD c 0 ≤ 1000) :
    Calls Try.prog 56 #[row s, .int .i64 c] w fun e w' => e = .returned (row (less1 s c)) ∧ Kept w w' := by
  have H := ((Has.box w 45 h6 (by omega)).alloc (.cells #[.int .i64 0, .int .i64 0, .int .i64 0, .int .i64 0, .int .i64 0, .int .i64 0] 45))
  have Z := (Has.zero6 (w.alloc (.cells (ints s).toArray 45)) 45).at (size1 _ _)
  have HB := Lib.hid (((kept_refl w).alloc (.cells (ints s).toArray 45)).alloc (.cells #[.int .i64 0, .int .i64 0, .int .i64 0, .int .i64 0, .int .i64 0, .int .i64 0] 45))
  rw [row_ints]
  go_enter Try.func56, Try.ntmps56
  go_upto_region 1 with fail
  generalize ((w.alloc (.cells (ints s).toArray 45)).alloc (.cells #[.int .i64 0, .int .i64 0, .int .i64 0, .int .i64 0, .int .i64 0, .int .i64 0] 45)) = W at *
  have c0 := H.cell c hc
  have f0 := H.free c hc
  have H2 := H.set c (s.getD c 0 - 1) hc
  have Z2 := Z.setOther (b' := w.heap.size) c (.int .i64 (s.getD c 0 - 1)) (by omega)
  have HB2 := Lib.hid (HB.out.set (b := w.heap.size) (by omega) c (.int .i64 (s.getD c 0 - 1)))
  have E : less1 s c = s.set c (s.getD c 0 - 1) := rfl
  rw [← E] at H2
  have l6 : (less1 s c).length = 6 := by rw [less1_len]; exact h6
  have S1 := Lib.hid (Z2.putAll (less1 s c) l6)
  have S2 := Lib.hid (HB2.out.puts (b := w.heap.size + 1) (by omega) 0 (ints (less1 s c)))
  have hci : (c : Int) < 6 := by omega
  obtain ⟨b0, b1⟩ := hb
  clear E HB HB2 H Z
  generalize s.getD c 0 = x at *
  go_wp2_with (first | (refine load_has rfl 45 _ rfl _ rfl ?_ 6 ?_ _ Try.underlying45 rfl ?_ ?_; rotate_left; (· (repeat (first | (with_reducible assumption) | ((with_reducible refine Has.box _ _ ?_ ?_) <;> (first | assumption | decide)) | (with_reducible refine Has.alloc ?_ _) | ((with_reducible refine Has.putOther ?_ _ _ ?_); rotate_left; omega; skip) | ((with_reducible refine Has.below ?_ ?_); rotate_left; assumption)))); (· kernel_rfl)) | (refine store_at rfl 45 _ _ rfl _ _ rfl rfl ?_ 6 ?_ ?_ ?_ ?_; rotate_left; (· (repeat (first | (with_reducible assumption) | ((with_reducible refine Has.box _ _ ?_ ?_) <;> (first | assumption | decide)) | (with_reducible refine Has.alloc ?_ _) | ((with_reducible refine Has.putOther ?_ _ _ ?_); rotate_left; omega; skip) | ((with_reducible refine Has.below ?_ ?_); rotate_left; assumption)))); (· (first | assumption | rfl)); (· kernel_rfl)))
  exact bodyPost_ret (res_has rfl _ _ (w.heap.size + 1) (less1 s c) 6 _ rfl S1.out Try.underlying45 rfl (by kernel_rfl)) rfl ⟨rfl, S2.out⟩

theorem sumUp_in (s : List Int) (hb : ∀ j, j < 6 → -1000 ≤ s.getD j 0 ∧ s.getD j 0 ≤ 1000) : ∀ c : Nat, c ≤ 6 → -1000 * (c : Int) ≤ sumUp s c ∧ sumUp s c ≤ 1000 * (c : Int)
  | 0, _ => by simp [sumUp]
  | c + 1, hc => by
    have := sumUp_in s hb c (by omega)
    have := hb c (by omega)
    rw [sumUp]; omega

theorem size_any (s : List Int) (w : World) (h6 : s.length = 6) (hb : ∀ j, j < 6 → -1000 ≤ s.getD j 0 ∧ s.getD j 0 ≤ 1000) :
    Calls Try.prog 45 #[row s] w fun e w' => e = .returned (.int .i64 (sumUp s 6)) ∧ Kept w w' := by
  have H := Has.box w 45 h6 (by omega)
  have HB := Lib.hid ((kept_refl w).alloc (.cells (ints s).toArray 45))
  have SI := Lib.hid (sumUp_in s hb)
  have BB := Lib.hid hb
  have gi := index6v 45 Try.underlying45 s h6
  have HG := Lib.hid gi
  rw [row_ints]
  clear gi hb
  go_enter Try.func45, Try.ntmps45
  go_wp2_with (refine load_has rfl 45 _ rfl _ rfl ?_ 6 ?_ _ Try.underlying45 rfl ?_ ?_; rotate_left; (· (repeat (first | (with_reducible assumption) | ((with_reducible refine Has.box _ _ ?_ ?_) <;> (first | assumption | decide)) | (with_reducible refine Has.alloc ?_ _) | ((with_reducible refine Has.putOther ?_ _ _ ?_); rotate_left; omega; skip) | ((with_reducible refine Has.below ?_ ?_); rotate_left; assumption)))); (· kernel_rfl))
  clear H
  generalize w.alloc (.cells (ints s).toArray 45) = W at *
  go_loopw [3, 7] (fun m i wr => ∃ c : Nat, c ≤ 6 ∧ i = .int .i64 c ∧ m = .int .i64 (sumUp s c) ∧ W = wr) (fun _ z _ => 6 - (intOf z).toNat)
  case atStart => exact ⟨0, by omega, rfl, rfl, rfl⟩
  case round =>
    obtain ⟨c, hc, rfl, rfl, rfl⟩ := hrel
    by_cases hlt : c < 6
    · have hci : (c : Int) < 6 := by omega
      have g0 := HG.out c hlt
      have si := SI.out c (by omega)
      have bb := BB.out c hlt
      have E : Hid (sumUp s (c + 1) = sumUp s c + s.getD c 0) := Lib.hid rfl
      generalize s.getD c 0 = x at *
      generalize sumUp s c = y at *
      obtain ⟨i0, i1⟩ := si
      obtain ⟨x0, x1⟩ := bb
      have y0 : -6000 ≤ y := by omega
      have y1 : y ≤ 6000 := by omega
      go_wp2_with fail
      go_roundw
      case rel => exact ⟨c + 1, by omega, by go_num, by rw [E.out], by trivial⟩
      case measure => simp [intOf]; omega
    · obtain rfl : c = 6 := by omega
      go_wp2_with fail
      go_ret
      exact ⟨rfl, HB.out⟩

/-- One layer more, for each: what the machine reckons. -/
def StepOk (s : List Int) : Prop := ∀ c k q : Nat, c < 6 → s.getD c 0 = (k : Int) → q < k →
    ∃ X Z Y pl : Nat, X = mulUp s c * bin (plUp s c) q ∧ Y = mulUp s c * bin (plUp s c) (q + 1) ∧ pl = plUp s c + q ∧ pl + 1 ≤ 24
      ∧ IntKind.i64.wrap ((X : Int) * ((pl : Int) + 1)) = (Z : Int) ∧ Int.tdiv (Z : Int) ((q : Int) + 1) = (Y : Int) ∧ IntKind.i64.wrap (Y : Int) = (Y : Int)
theorem step18 (s : List Int) (h6 : s.length = 6) (hp : plUp s 6 ≤ 18) : StepOk s := fun c k q hc hk hq => by
  obtain ⟨X, Z, Y, pl, e1, e2, e3, h, w1, w2, w3⟩ := mul_step s h6 hp c k q hc hk hq
  exact ⟨X, Z, Y, pl, e1, e2, e3, by omega, w1, w2, w3⟩
set_option maxHeartbeats 400000 in
theorem orders_core (s : List Int) (w : World) (h6 : s.length = 6) (hs : StepOk s) (hp : plUp s 6 ≤ 24) :
    Calls Try.prog 46 #[row s] w fun e w' => e = .returned (.int .i64 (ordA s : Nat)) ∧ Kept w w' := by
  have H := Has.box w 45 h6 (by omega)
  have HB := Lib.hid ((kept_refl w).alloc (.cells (ints s).toArray 45))
  have gi := index6v 45 Try.underlying45 s h6
  have HG := Lib.hid gi
  have HL := Lib.hid h6
  have HP := Lib.hid hp
  have HS := Lib.hid hs
  rw [row_ints]
  clear gi h6 hp hs
  go_enter Try.func46, Try.ntmps46
  go_wp2_with (refine load_has rfl 45 _ rfl _ rfl ?_ 6 ?_ _ Try.underlying45 rfl ?_ ?_; rotate_left; (· (repeat (first | (with_reducible assumption) | ((with_reducible refine Has.box _ _ ?_ ?_) <;> (first | assumption | decide)) | (with_reducible refine Has.alloc ?_ _) | ((with_reducible refine Has.putOther ?_ _ _ ?_); rotate_left; omega; skip) | ((with_reducible refine Has.below ?_ ?_); rotate_left; assumption)))); (· kernel_rfl))
  clear H
  generalize w.alloc (.cells (ints s).toArray 45) = W at *
  go_loopg [3, 4, 9] 6 (fun gk m n i wr => ∃ c : Nat, gk = 6 - c ∧ c ≤ 6 ∧ i = .int .i64 c ∧ m = .int .i64 (mulUp s c : Nat) ∧ n = .int .i64 (plUp s c : Nat) ∧ Hid (∀ j, j < c → 0 ≤ s.getD j 0) ∧ W = wr)
  case atStart => exact ⟨0, rfl, by omega, rfl, rfl, rfl, Lib.hid (fun j hj => by omega), rfl⟩
  case round =>
    obtain ⟨c, rfl, hc, rfl, rfl, rfl, NN, rfl⟩ := hrel
    by_cases hlt : c < 6
    · have hci : (c : Int) < 6 := by omega
      have g0 := HG.out c hlt
      by_cases hneg : s.getD c 0 < 0
      · have E := Lib.hid (ordA_not hlt hneg)
        have dn : decide (s.getD c 0 < 0) = true := decide_eq_true hneg
        generalize s.getD c 0 = x at *
        go_wp2_with fail
        go_ret
        exact ⟨by rw [E.out]; rfl, HB.out⟩
      · obtain ⟨k, hk⟩ : ∃ k : Nat, s.getD c 0 = (k : Int) := ⟨(s.getD c 0).toNat, by omega⟩
        have ST := Lib.hid (fun q hq => HS.out c k q hlt hk hq)
        have E0 := Lib.hid (show mulUp s c * bin (plUp s c) 0 = mulUp s c by rw [bin_zero, Nat.mul_one])
        have E1 := Lib.hid (show mulUp s (c + 1) = mulUp s c * bin (plUp s c) k by rw [mulUp, hk, Int.toNat_natCast])
        have E2 := Lib.hid (show plUp s (c + 1) = plUp s c + k by rw [plUp, hk, Int.toNat_natCast])
        have N2 := Lib.hid (show ∀ j, j < c + 1 → 0 ≤ s.getD j 0 from fun j hj => by
          by_cases e : j = c
          · subst e; omega
          · exact NN.out j (by omega))
        rw [hk] at g0
        clear hneg hk
        go_wp2_with fail
        go_loopg [3, 4, 15] k (fun gk m n i wr => ∃ q : Nat, gk = k - q ∧ q ≤ k ∧ i = .int .i64 q ∧ m = .int .i64 (mulUp s c * bin (plUp s c) q : Nat) ∧ n = .int .i64 (plUp s c + q : Nat) ∧ W = wr)
        case atStart => exact ⟨0, rfl, by omega, rfl, by rw [E0.out], rfl, rfl⟩
        case round =>
          obtain ⟨q, rfl, hq, rfl, rfl, rfl, rfl⟩ := hrel
          by_cases hqk : q < k
          · have hqi : (q : Int) < (k : Int) := by omega
            obtain ⟨X, Z, Y, pl, e1, e2, e3, hpl, w1, w2, w3⟩ := ST.out q hqk
            rw [← e1, ← e3]
            have E4 := Lib.hid e2
            have E5 := Lib.hid e3
            have qk : q < 1000 := by omega
            clear e1 e2 e3
            have q1 : ((q : Int) + 1 == 0) = false := by simp; omega
            have HQ := Lib.hid (show q + 1 ≤ k from hqk)
            go_wp2_with fail
            go_roundg (k - (q + 1))
            case rel => exact ⟨q + 1, rfl, HQ.out, by go_num, by rw [← E4.out], by rw [E5.out]; go_num, rfl⟩
            case measure => omega
          · obtain rfl : q = k := by omega
            rw [← E1.out, ← E2.out]
            go_wp2_with fail
            go_roundg (6 - (c + 1))
            case rel => exact ⟨c + 1, rfl, by omega, by go_num, rfl, rfl, N2, rfl⟩
            case measure => omega
    · obtain rfl : c = 6 := by omega
      have E := Lib.hid (ordA_of NN.out)
      go_wp2_with fail
      go_ret
      exact ⟨by rw [E.out]; rfl, HB.out⟩
theorem orders_any (s : List Int) (w : World) (h6 : s.length = 6) (hp : plUp s 6 ≤ 18) :
    Calls Try.prog 46 #[row s] w fun e w' => e = .returned (.int .i64 (ordA s : Nat)) ∧ Kept w w' :=
  orders_core s w h6 (step18 s h6 hp) (by omega)
end Go.Proofs.Ytemiljokdedidaa.base
