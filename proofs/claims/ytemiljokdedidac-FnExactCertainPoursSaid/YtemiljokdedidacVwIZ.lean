/-
  Views on the program's side: tops, counts and hidden counts, walked.
-/
/-
  Valid views, hidden counts and the number of candidates, on the program's side, walked.
-/
import Derived.Test.YtemiljokdedidacFracWZ
import Derived.Test.YtemiljokdedidacDelMZ
import Derived.Test.YtemiljokdedidacVwSZ

section
namespace Go.Proofs.Ytemiljokdedidac.base
open Go.ChangeShapes Go.WideShapes Go.ChangeAt Go.RowKit
set_option linter.unusedVariables false
set_option linter.unusedSimpArgs false

theorem less1_lessAt (cs : List Int) (c : Nat) (h : c ≠ 0) : lessAt cs (c : Int) = less1 cs c := by
  unfold lessAt less1; rw [if_neg (by omega), Int.toNat_natCast]
theorem lessAt_zero (cs : List Int) : lessAt cs 0 = cs := by unfold lessAt; rw [if_pos rfl]

set_option maxHeartbeats 400000 in
set_option maxRecDepth 100000 in
theorem hidden_any (vs : List Int) (w : World) (h : vs.length = 18) (ht : topV vs = true) (hb : ∀ c, c < 6 → -900 ≤ vCnt vs c ∧ vCnt vs c ≤ 900) :
    Calls Try.prog 80 #[row vs] w fun e w' => e = .returned (row (hid vs)) ∧ Kept w w' := by
  have l2 := prt_len vs 2 h (by omega)
  have H := ((Has.box w 28 h (by omega)).alloc (.cells #[.int .i64 0, .int .i64 0, .int .i64 0, .int .i64 0, .int .i64 0, .int .i64 0] 104)).alloc (.cells (ints (prt vs 2)).toArray 104)
  have Z := ((Has.zero6 (w.alloc (.cells (ints vs).toArray 28)) 104).at (size1 _ _)).alloc (.cells (ints (prt vs 2)).toArray 104)
  have Y := (Has.box ((w.alloc (.cells (ints vs).toArray 28)).alloc (.cells #[.int .i64 0, .int .i64 0, .int .i64 0, .int .i64 0, .int .i64 0, .int .i64 0] 104)) 104 l2 (by omega)).at (c := w.heap.size + 1 + 1) (by simp)
  have HB := Lib.hid ((((kept_refl w).alloc (.cells (ints vs).toArray 28)).alloc (.cells #[.int .i64 0, .int .i64 0, .int .i64 0, .int .i64 0, .int .i64 0, .int .i64 0] 104)).alloc (.cells (ints (prt vs 2)).toArray 104))
  have HH := (Has.box w 28 h (by omega)).alloc (.cells #[.int .i64 0, .int .i64 0, .int .i64 0, .int .i64 0, .int .i64 0, .int .i64 0] 104)
  have gi := index6v 22 Try.underlying22 (prt vs 0) (prt_len vs 0 h (by omega))
  have HG := Lib.hid gi
  have HT := Lib.hid (fun i hi => topV_at ht i hi)
  have HU := Lib.hid (hidUp_len vs h)
  have HX := Lib.hid (show ∀ i c, i ≤ 6 → c < 6 → -1000 ≤ (hidUp vs i).getD c 0 ∧ (hidUp vs i).getD c 0 ≤ 1000 from fun i c hi hc => by
    rw [hidUp_get h ht c hc i hi]
    have := occT_in vs c i
    have := hb c hc
    omega)
  rw [row_ints]
  clear gi hb ht
  go_enter Try.func80, Try.ntmps80
  go_upto_region 3 with (first | (refine load_prt rfl 22 _ rfl _ (2) _ rfl ?_ ?_ ?_ ?_ _ Try.underlying22 rfl ?_ ?_; (· (first | rfl | omega)); rotate_left; (· (repeat (first | (with_reducible assumption) | ((with_reducible refine Has.box _ _ ?_ ?_) <;> (first | assumption | decide)) | (with_reducible refine Has.alloc ?_ _) | ((with_reducible refine Has.putOther ?_ _ _ ?_); rotate_left; omega; skip) | ((with_reducible refine Has.below ?_ ?_); rotate_left; assumption)))); (· omega); (· kernel_rfl)) | (refine store_new rfl 104 _ _ rfl _ _ _ rfl _ (by simp) (prt vs 2) rfl rfl ?_ ?_ ?_; (· (first | assumption | rfl)); (· kernel_rfl)) | (refine load_prt rfl 22 _ rfl _ (0) _ rfl ?_ ?_ ?_ ?_ _ Try.underlying22 rfl ?_ ?_; (· (first | rfl | omega)); rotate_left; (· (repeat (first | (with_reducible assumption) | ((with_reducible refine Has.box _ _ ?_ ?_) <;> (first | assumption | decide)) | (with_reducible refine Has.alloc ?_ _) | ((with_reducible refine Has.putOther ?_ _ _ ?_); rotate_left; omega; skip) | ((with_reducible refine Has.below ?_ ?_); rotate_left; assumption)))); (· omega); (· kernel_rfl)))
  clear H HH
  generalize (((w.alloc (.cells (ints vs).toArray 28)).alloc (.cells #[.int .i64 0, .int .i64 0, .int .i64 0, .int .i64 0, .int .i64 0, .int .i64 0] 104)).alloc (.cells (ints (prt vs 2)).toArray 104)) = W at *
  go_loopg [10] 6 (fun gk i wr => ∃ k : Nat, gk = 6 - k ∧ k ≤ 6 ∧ i = .int .i64 k ∧ Has wr (w.heap.size + 1) z6 6 ∧ Has wr (w.heap.size + 1 + 1) (hidUp vs k) 6 ∧ Hid (Kept w wr))
  case atStart => exact ⟨0, rfl, by omega, rfl, Z, Y, HB⟩
  case round =>
    obtain ⟨k, rfl, hk, rfl, GZ, GY, GB⟩ := hrel
    by_cases hlt : k < 6
    · have hki : (k : Int) < 6 := by omega
      have g0 := HG.out k hlt
      have tk := HT.out k hlt
      have E : Hid (hidUp vs (k + 1) = lessAt (hidUp vs k) (vTop vs k)) := Lib.hid rfl
      have et : (prt vs 0).getD k 0 = vTop vs k := rfl
      rw [et] at g0
      clear et
      by_cases h0 : vTop vs k = 0
      · rw [h0] at g0
        have E2 := Lib.hid (show hidUp vs (k + 1) = hidUp vs k by rw [E.out, h0, lessAt_zero])
        clear tk h0 E
        go_wp2_with fail
        go_roundg (6 - (k + 1))
        case rel => exact ⟨k + 1, rfl, by omega, by go_num, GZ, GY.asV E2.out.symm, GB⟩
        case measure => omega
      · obtain ⟨c, hc, hc6, hc1⟩ : ∃ c : Nat, vTop vs k = (c : Int) ∧ c < 6 ∧ c ≠ 0 := ⟨(vTop vs k).toNat, by omega, by omega, by omega⟩
        rw [hc] at g0
        have E2 := Lib.hid (show hidUp vs (k + 1) = less1 (hidUp vs k) c by rw [E.out, hc, less1_lessAt _ c hc1])
        have q1 : ((c : Int) != 0) = true := by simp; omega
        have q2 : ((c : Int) == 0) = false := by simp; omega
        have hl := HU.out k
        have hx := HX.out k c hk hc6
        clear tk h0 E hc
        go_wp2_with (refine load_has rfl 104 _ rfl _ rfl ?_ 6 ?_ _ Try.underlying104 rfl ?_ ?_; rotate_left; (· (repeat (first | (with_reducible assumption) | ((with_reducible refine Has.box _ _ ?_ ?_) <;> (first | assumption | decide)) | (with_reducible refine Has.alloc ?_ _) | ((with_reducible refine Has.putOther ?_ _ _ ?_); rotate_left; omega; skip) | ((with_reducible refine Has.below ?_ ?_); rotate_left; assumption)))); (· kernel_rfl))
        refine (without_any (hidUp vs k) c _ hl hc6 hx).mono ?_
        rintro e w1 ⟨rfl, b1⟩
        rw [← E2.out]
        have hl2 := HU.out (k + 1)
        have KZ := GZ.below b1
        have KY := GY.below b1
        have KB := Lib.hid (GB.out.call b1)
        have LZ := Lib.hid (KZ.putOther (b' := w.heap.size + 1 + 1) 0 (ints (hidUp vs (k + 1))) (by omega))
        have LY := Lib.hid (KY.putAll (hidUp vs (k + 1)) hl2)
        have LB := Lib.hid (KB.out.puts (b := w.heap.size + 1 + 1) (by omega) 0 (ints (hidUp vs (k + 1))))
        clear GZ GY GB b1 KZ KB hx
        rw [row_ints]
        go_wp2_with (refine store_at rfl 104 _ _ rfl _ _ rfl rfl ?_ 6 ?_ ?_ ?_ ?_; rotate_left; (· (repeat (first | (with_reducible assumption) | ((with_reducible refine Has.box _ _ ?_ ?_) <;> (first | assumption | decide)) | (with_reducible refine Has.alloc ?_ _) | ((with_reducible refine Has.putOther ?_ _ _ ?_); rotate_left; omega; skip) | ((with_reducible refine Has.below ?_ ?_); rotate_left; assumption)))); (· (first | assumption | rfl)); (· kernel_rfl))
        go_roundg (6 - (k + 1))
        case rel => exact ⟨k + 1, rfl, by omega, by go_num, LZ.out, LY.out, LB⟩
        case measure => omega
    · obtain rfl : k = 6 := by omega
      have hl := HU.out 6
      have S1 := Lib.hid (GZ.putAll (hidUp vs 6) hl)
      have S2 := Lib.hid (GB.out.puts (b := w.heap.size + 1) (by omega) 0 (ints (hidUp vs 6)))
      go_wp2_with (first | (refine load_has rfl 104 _ rfl _ rfl ?_ 6 ?_ _ Try.underlying104 rfl ?_ ?_; rotate_left; (· (repeat (first | (with_reducible assumption) | ((with_reducible refine Has.box _ _ ?_ ?_) <;> (first | assumption | decide)) | (with_reducible refine Has.alloc ?_ _) | ((with_reducible refine Has.putOther ?_ _ _ ?_); rotate_left; omega; skip) | ((with_reducible refine Has.below ?_ ?_); rotate_left; assumption)))); (· kernel_rfl)) | (refine store_at rfl 104 _ _ rfl _ _ rfl rfl ?_ 6 ?_ ?_ ?_ ?_; rotate_left; (· (repeat (first | (with_reducible assumption) | ((with_reducible refine Has.box _ _ ?_ ?_) <;> (first | assumption | decide)) | (with_reducible refine Has.alloc ?_ _) | ((with_reducible refine Has.putOther ?_ _ _ ?_); rotate_left; omega; skip) | ((with_reducible refine Has.below ?_ ?_); rotate_left; assumption)))); (· (first | assumption | rfl)); (· kernel_rfl)))
      exact bodyPost_ret (res_has rfl _ _ (w.heap.size + 1) (hidUp vs 6) 6 _ rfl S1.out Try.underlying104 rfl (by kernel_rfl)) rfl ⟨rfl, S2.out⟩

set_option maxHeartbeats 400000 in
set_option maxRecDepth 100000 in
theorem hasTops_any (vs : List Int) (w : World) (h : vs.length = 18) :
    Calls Try.prog 108 #[row vs] w fun e w' => e = .returned (.bool (topV vs)) ∧ Kept w w' := by
  have H := Has.box w 28 h (by omega)
  have HB := Lib.hid ((kept_refl w).alloc (.cells (ints vs).toArray 28))
  have gi := index6v 22 Try.underlying22 (prt vs 1) (prt_len vs 1 h (by omega))
  have HG := Lib.hid gi
  rw [row_ints]
  clear gi
  go_enter Try.func108, Try.ntmps108
  go_upto_region 2 with (refine load_prt rfl 22 _ rfl _ (1) _ rfl ?_ ?_ ?_ ?_ _ Try.underlying22 rfl ?_ ?_; (· (first | rfl | omega)); rotate_left; (· (repeat (first | (with_reducible assumption) | ((with_reducible refine Has.box _ _ ?_ ?_) <;> (first | assumption | decide)) | (with_reducible refine Has.alloc ?_ _) | ((with_reducible refine Has.putOther ?_ _ _ ?_); rotate_left; omega; skip) | ((with_reducible refine Has.below ?_ ?_); rotate_left; assumption)))); (· omega); (· kernel_rfl))
  generalize w.alloc (.cells (ints vs).toArray 28) = W at *
  go_loopg [9] 6 (fun gk i wr => ∃ k : Nat, gk = 6 - k ∧ k ≤ 6 ∧ i = .int .i64 k ∧ Hid (∀ j, j < k → okTop vs j = true) ∧ W = wr)
  case atStart => exact ⟨0, rfl, by omega, rfl, Lib.hid (fun j hj => by omega), rfl⟩
  case round =>
    obtain ⟨k, rfl, hk, rfl, OK, rfl⟩ := hrel
    by_cases hlt : k < 6
    · have hki : (k : Int) < 6 := by omega
      have g0 := HG.out k hlt
      have em : (prt vs 1).getD k 0 = vMany vs k := rfl
      have c0 := H.vCell 0 k (by omega) hlt
      rw [Nat.zero_mul, Nat.zero_add] at c0
      have et : (prt vs 0).getD k 0 = vTop vs k := rfl
      rw [em] at g0
      rw [et] at c0
      have EO : Hid (okTop vs k = decide ((1 ≤ vMany vs k ∧ vMany vs k ≤ 4 ∧ 1 ≤ vTop vs k ∧ vTop vs k ≤ 5) ∨ (vMany vs k = 0 ∧ vTop vs k = 0))) := Lib.hid rfl
      have YES := Lib.hid (show okTop vs k = true → ∀ j, j < k + 1 → okTop vs j = true from fun hy j hj => by
        by_cases e : j = k
        · subst e; exact hy
        · exact OK.out j (by omega))
      have NO := Lib.hid (show okTop vs k = false → topV vs = false from fun hn => topV_not k hlt hn)
      clear em et OK
      generalize vMany vs k = m at *
      generalize vTop vs k = t at *
      by_cases hm : 1 ≤ m ∧ m ≤ 4
      · have m1 : decide (1 ≤ m) = true := decide_eq_true hm.1
        have m4 : decide (m ≤ 4) = true := decide_eq_true hm.2
        have m0 : (m == 0) = false := by simp; omega
        go_wp2_with fail
        refine (isColor_any t _).mono ?_
        rintro e w' ⟨rfl, rfl⟩
        by_cases ht : 1 ≤ t ∧ t ≤ 5
        · rw [decide_eq_true ht]
          have Y := Lib.hid (YES.out (by rw [EO.out]; exact decide_eq_true (.inl ⟨hm.1, hm.2, ht.1, ht.2⟩)))
          clear ht hm YES NO EO
          go_wp2_with fail
          go_roundg (6 - (k + 1))
          case rel => exact ⟨k + 1, rfl, by omega, by go_num, Y, rfl⟩
          case measure => omega
        · rw [decide_eq_false ht]
          have N := Lib.hid (NO.out (by rw [EO.out]; exact decide_eq_false (by rintro (h | h) <;> omega)))
          clear ht hm YES NO EO
          go_wp2_with fail
          go_ret
          exact ⟨by rw [N.out]; rfl, HB.out⟩
      · by_cases h0 : m = 0
        · subst h0
          by_cases ht : t = 0
          · subst ht
            have Y := Lib.hid (YES.out (by rw [EO.out]; rfl))
            clear hm YES NO EO
            go_wp2_with fail
            go_roundg (6 - (k + 1))
            case rel => exact ⟨k + 1, rfl, by omega, by go_num, Y, rfl⟩
            case measure => omega
          · have N := Lib.hid (NO.out (by rw [EO.out]; exact decide_eq_false (by rintro (h | h) <;> omega)))
            have t0 : (t == 0) = false := by simpa using ht
            clear ht hm YES NO EO
            go_wp2_with fail
            go_ret
            exact ⟨by rw [N.out]; rfl, HB.out⟩
        · have N := Lib.hid (NO.out (by rw [EO.out]; exact decide_eq_false (by rintro (h | h) <;> omega)))
          have m0 : (m == 0) = false := by simpa using h0
          by_cases h1 : 1 ≤ m
          · have m1 : decide (1 ≤ m) = true := decide_eq_true h1
            have m4 : decide (m ≤ 4) = false := decide_eq_false (by omega)
            clear hm h0 h1 YES NO EO
            go_wp2_with fail
            go_ret
            exact ⟨by rw [N.out]; rfl, HB.out⟩
          · have m1 : decide (1 ≤ m) = false := decide_eq_false h1
            clear hm h0 h1 YES NO EO
            go_wp2_with fail
            go_ret
            exact ⟨by rw [N.out]; rfl, HB.out⟩
    · obtain rfl : k = 6 := by omega
      have E := Lib.hid (topV_of OK.out)
      go_wp2_with fail
      go_ret
      exact ⟨by rw [E.out]; rfl, HB.out⟩

theorem cnt_small {vs : List Int} (ht : topV vs = true) : ∀ c, c ≤ 6 → cntOk vs c = true → (0 ≤ sumUp (prt vs 2) c ∧ sumUp (prt vs 2) c ≤ 24) ∧ ∀ j, j < c → 0 ≤ vCnt vs j ∧ vCnt vs j ≤ 24
  | 0, _, _ => ⟨by simp [sumUp], fun j hj => by omega⟩
  | c + 1, hc, ho => by
    simp only [cntOk, Bool.and_eq_true, decide_eq_true_eq] at ho
    obtain ⟨i1, i2⟩ := cnt_small ht c (by omega) ho.1.1
    have hm := mnyUp_in ht 6 (by omega)
    have e : sumUp (prt vs 2) (c + 1) = sumUp (prt vs 2) c + vCnt vs c := rfl
    have h1 := ho.1.2
    have h2 := ho.2
    refine ⟨by omega, fun j hj => ?_⟩
    by_cases e2 : j = c
    · subst e2; omega
    · exact i2 j (by omega)
end Go.Proofs.Ytemiljokdedidac.base
end

section
namespace Go.Proofs.Ytemiljokdedidac.base
open Go.ChangeShapes Go.WideShapes Go.ChangeAt Go.RowKit
set_option linter.unusedVariables false
set_option linter.unusedSimpArgs false

/-- The least of six numbers. -/
def minUp (xs : List Int) : Nat → Int
  | 0 => xs.getD 0 0
  | k + 1 => min (minUp xs k) (xs.getD (k + 1) 0)
theorem minUp_debt (xs : List Int) : ∀ k : Nat, decide (0 ≤ minUp xs k) = noDebt xs (k + 1)
  | 0 => by rw [minUp]; simp [noDebt]
  | k + 1 => by
    have ih := minUp_debt xs k
    rw [Bool.eq_iff_iff, noDebt_iff, decide_eq_true_iff]
    rw [Bool.eq_iff_iff, noDebt_iff, decide_eq_true_iff] at ih
    rw [minUp]
    constructor
    · intro h j hj
      by_cases e : j = k + 1
      · subst e; omega
      · exact ih.1 (by omega) j (by omega)
    · intro h
      have h1 := ih.2 (fun j hj => h j (by omega))
      have h2 := h (k + 1) (by omega)
      omega

set_option maxHeartbeats 400000 in
theorem min_any (xs : List Int) (b : Nat) (w : World) (H : Has w b xs 6) :
    Calls Try.prog 110 #[.slice (some ⟨b, 0, none⟩) 6 6] w fun e w' => e = .returned (.int .i64 (minUp xs 5)) ∧ w' = w := by
  have c0 := H.cell 0 (by omega)
  have E0 : Hid (minUp xs 0 = xs.getD 0 0) := Lib.hid rfl
  have HH := Lib.hid H
  clear H
  rw [← E0.out] at c0
  go_enter Try.func110, Try.ntmps110
  go_wp2_with fail
  go_loop [3, 4] (fun m i => ∃ c : Nat, c ≤ 5 ∧ i = .int .i64 ((c + 1 : Nat) : Int) ∧ m = .int .i64 (minUp xs c)) (fun _ z => 7 - (intOf z).toNat)
  case atStart => exact ⟨0, by omega, rfl, rfl⟩
  case round =>
    obtain ⟨c, hc, rfl, rfl⟩ := hrel
    by_cases hc4 : c < 5
    · have hci : ((c + 1 : Nat) : Int) < 6 := by omega
      have hci2 : (c : Int) + 1 < 6 := by omega
      have hc0 := HH.out.cell (c + 1) (by omega)
      have EN : Hid (minUp xs (c + 1) = min (minUp xs c) (xs.getD (c + 1) 0)) := Lib.hid rfl
      generalize xs.getD (c + 1) 0 = x at *
      generalize minUp xs c = y at *
      clear c0
      go_wp2_with fail
      all_goals
        go_round
        case rel => exact ⟨c + 1, by omega, by go_num, by rw [EN.out]; congr 1; omega⟩
        case measure => simp [intOf]; omega
    · obtain rfl : c = 5 := by omega
      go_wp2_with fail
      go_ret
      exact ⟨rfl, rfl⟩

theorem cnt_bounds {vs : List Int} (ht : topV vs = true) (hc : cntVV vs = true) : ∀ c, c < 6 → -900 ≤ vCnt vs c ∧ vCnt vs c ≤ 900 := fun c h => by
  unfold cntVV at hc
  simp only [Bool.and_eq_true] at hc
  have := (cnt_small ht 6 (by omega) hc.1.1).2 c h
  omega
theorem vV_bounds {vs : List Int} (h : vs.length = 18) (hv : vV vs = true) : ∀ c, c < 6 → -900 ≤ vCnt vs c ∧ vCnt vs c ≤ 900 := by
  have F := viewFacts h hv
  refine cnt_bounds F.tops ?_
  have := vV_code h F.tops
  rw [hv] at this
  exact (Bool.and_eq_true_iff.1 this.symm).1

set_option maxHeartbeats 400000 in
theorem implIsView (vs : List Int) (w : World) (h : vs.length = 18) :
    Calls Try.prog 79 #[row vs] w fun e w' => e = .returned (.bool (vV vs)) ∧ Kept w w' := by
  have H := Has.box w 28 h (by omega)
  have HB := Lib.hid ((kept_refl w).alloc (.cells (ints vs).toArray 28))
  rw [row_ints]
  go_enter Try.func79, Try.ntmps79
  go_wp2_with (refine load_has rfl 28 _ rfl _ rfl ?_ 18 ?_ _ Try.underlying28 rfl ?_ ?_; rotate_left; (· (repeat (first | (with_reducible assumption) | ((with_reducible refine Has.box _ _ ?_ ?_) <;> (first | assumption | decide)) | (with_reducible refine Has.alloc ?_ _) | ((with_reducible refine Has.putOther ?_ _ _ ?_); rotate_left; omega; skip) | ((with_reducible refine Has.below ?_ ?_); rotate_left; assumption)))); (· kernel_rfl))
  refine (hasTops_any vs _ h).mono ?_
  rintro e w1 ⟨rfl, b1⟩
  have H1 := H.below b1
  have HB1 := Lib.hid (HB.out.call b1)
  clear H HB b1
  by_cases ht : topV vs = true
  · rw [ht]
    have HC := Lib.hid (vV_code h ht)
    have HCB := Lib.hid (cnt_bounds ht)
    have HMN := Lib.hid (show ∀ i, i < 6 → 0 ≤ (prt vs 1).getD i 0 ∧ (prt vs 1).getD i 0 ≤ 4 from fun i hi => by
      have := topV_at ht i hi
      unfold vMany at this
      omega)
    go_wp2_with (first | (refine load_prt rfl 22 _ rfl _ (1) _ rfl ?_ ?_ ?_ ?_ _ Try.underlying22 rfl ?_ ?_; (· (first | rfl | omega)); rotate_left; (· (repeat (first | (with_reducible assumption) | ((with_reducible refine Has.box _ _ ?_ ?_) <;> (first | assumption | decide)) | (with_reducible refine Has.alloc ?_ _) | ((with_reducible refine Has.putOther ?_ _ _ ?_); rotate_left; omega; skip) | ((with_reducible refine Has.below ?_ ?_); rotate_left; assumption)))); (· omega); (· kernel_rfl)) | (refine load_prt rfl 22 _ rfl _ (2) _ rfl ?_ ?_ ?_ ?_ _ Try.underlying22 rfl ?_ ?_; (· (first | rfl | omega)); rotate_left; (· (repeat (first | (with_reducible assumption) | ((with_reducible refine Has.box _ _ ?_ ?_) <;> (first | assumption | decide)) | (with_reducible refine Has.alloc ?_ _) | ((with_reducible refine Has.putOther ?_ _ _ ?_); rotate_left; omega; skip) | ((with_reducible refine Has.below ?_ ?_); rotate_left; assumption)))); (· omega); (· kernel_rfl)))
    refine (addUp_any (prt vs 1) (prt vs 2) _ (prt_len vs 1 h (by omega)) (prt_len vs 2 h (by omega)) HMN.out).mono ?_
    rintro e w2 ⟨rfl, b2⟩
    rw [← cntVV_B]
    have H2 := H1.below b2
    have HB2 := Lib.hid (HB1.out.call b2)
    clear H1 HB1 b2
    by_cases hc : cntVV vs = true
    · rw [hc] at HC ⊢
      have hb := HCB.out hc
      clear hc HCB
      have h6 := hid_len h
      go_wp2_with (refine load_has rfl 28 _ rfl _ rfl ?_ 18 ?_ _ Try.underlying28 rfl ?_ ?_; rotate_left; (· (repeat (first | (with_reducible assumption) | ((with_reducible refine Has.box _ _ ?_ ?_) <;> (first | assumption | decide)) | (with_reducible refine Has.alloc ?_ _) | ((with_reducible refine Has.putOther ?_ _ _ ?_); rotate_left; omega; skip) | ((with_reducible refine Has.below ?_ ?_); rotate_left; assumption)))); (· kernel_rfl))
      refine (hidden_any vs _ h ht hb).mono ?_
      rintro e w3 ⟨rfl, b3⟩
      have HB3 := Lib.hid ((HB2.out.call b3).alloc (.cells (ints (hid vs)).toArray 104))
      have Z := Has.box w3 104 h6 (by omega)
      clear H2 HB2 b3 hb ht
      rw [row_ints]
      go_wp2_with (refine store_new rfl 104 _ _ rfl _ _ _ rfl _ rfl _ rfl rfl ?_ ?_ ?_; (· (first | assumption | rfl)); (· kernel_rfl))
      refine (min_any (hid vs) _ _ Z).mono ?_
      rintro e w' ⟨rfl, rfl⟩
      have E := Lib.hid (show vV vs = decide (0 ≤ minUp (hid vs) 5) by rw [HC.out, Bool.true_and, minUp_debt])
      clear HC
      go_wp2_with fail
      go_ret
      exact ⟨by rw [E.out]; rfl, HB3.out⟩
    · have hf : cntVV vs = false := by simpa using hc
      rw [hf] at HC ⊢
      clear hf hc HCB ht
      go_wp2_with fail
      go_ret
      exact ⟨by rw [HC.out]; rfl, HB2.out⟩
  · have hf : topV vs = false := by simpa using ht
    have N := Lib.hid (vV_tops hf)
    rw [hf]
    clear hf ht
    go_wp2_with fail
    go_ret
    exact ⟨by rw [N.out]; rfl, HB1.out⟩

/-- What is hidden, for any view. -/
def hidA (vs : List Int) : List Int := if vV vs = true then hid vs else z6
def belA (vs : List Int) : Int := if vV vs = true then belUp vs 6 else 0
def candA (vs : List Int) : Nat := if vV vs = true then ordA (hid vs) else 0
theorem hidA_len {vs : List Int} (h : vs.length = 18) : (hidA vs).length = 6 := by
  unfold hidA
  by_cases hv : vV vs = true
  · rw [if_pos hv]; exact hid_len h
  · rw [if_neg hv]; rfl

theorem implCountCand (vs : List Int) (w : World) (h : vs.length = 18) :
    Calls Try.prog 46 #[row vs] w fun e w' => e = .returned (.tuple #[.int .i64 (candA vs : Nat), .bool (vV vs)]) ∧ Kept w w' := by
  have H := Has.box w 28 h (by omega)
  have HB := Lib.hid ((kept_refl w).alloc (.cells (ints vs).toArray 28))
  rw [row_ints]
  go_enter Try.func46, Try.ntmps46
  go_wp2_with (refine load_has rfl 28 _ rfl _ rfl ?_ 18 ?_ _ Try.underlying28 rfl ?_ ?_; rotate_left; (· (repeat (first | (with_reducible assumption) | ((with_reducible refine Has.box _ _ ?_ ?_) <;> (first | assumption | decide)) | (with_reducible refine Has.alloc ?_ _) | ((with_reducible refine Has.putOther ?_ _ _ ?_); rotate_left; omega; skip) | ((with_reducible refine Has.below ?_ ?_); rotate_left; assumption)))); (· kernel_rfl))
  refine (implIsView vs _ h).mono ?_
  rintro e w1 ⟨rfl, b1⟩
  have H1 := H.below b1
  have HB1 := Lib.hid (HB.out.call b1)
  clear H HB b1
  by_cases hv : vV vs = true
  · rw [hv]
    have F := Lib.hid (viewFacts h hv)
    have EA := Lib.hid (show candA vs = ordA (hid vs) by unfold candA; rw [if_pos hv])
    have hb := vV_bounds h hv
    have h6 := hid_len h
    have hp := F.out.small
    have HV := Lib.hid hv
    clear hv
    go_wp2_with (refine load_has rfl 28 _ rfl _ rfl ?_ 18 ?_ _ Try.underlying28 rfl ?_ ?_; rotate_left; (· (repeat (first | (with_reducible assumption) | ((with_reducible refine Has.box _ _ ?_ ?_) <;> (first | assumption | decide)) | (with_reducible refine Has.alloc ?_ _) | ((with_reducible refine Has.putOther ?_ _ _ ?_); rotate_left; omega; skip) | ((with_reducible refine Has.below ?_ ?_); rotate_left; assumption)))); (· kernel_rfl))
    refine (hidden_any vs _ h F.out.tops hb).mono ?_
    rintro e w3 ⟨rfl, b3⟩
    have HB3 := Lib.hid (HB1.out.call b3)
    clear H1 HB1 b3 hb
    go_wp2_with fail
    refine (orders_any (hid vs) _ h6 hp).mono ?_
    rintro e w4 ⟨rfl, b4⟩
    have HB4 := Lib.hid (HB3.out.call b4)
    clear HB3 b4
    go_wp2_with fail
    go_ret2
    exact ⟨by rw [EA.out, HV.out]; rfl, HB4.out⟩
  · have hf : vV vs = false := by simpa using hv
    have EA := Lib.hid (show candA vs = 0 by unfold candA; rw [if_neg hv])
    rw [hf]
    have HV := Lib.hid hf
    clear hf hv
    go_wp2_with fail
    go_ret2
    exact ⟨by rw [EA.out, HV.out]; rfl, HB1.out⟩
end Go.Proofs.Ytemiljokdedidac.base
end
