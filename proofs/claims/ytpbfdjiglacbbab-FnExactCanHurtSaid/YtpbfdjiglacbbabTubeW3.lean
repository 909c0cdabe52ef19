/-
  Which tubes and racks are valid: the program's check, walked.
-/
import Derived.Test.YtpbfdjiglacbbabTubeW2
import Derived.Laws.EntriesVeiled
namespace Go.Proofs.Ytpbfdjiglacbbab.base
open Go.ChangeShapes Go.WideShapes Go.ChangeAt Go.RowKit
set_option linter.unusedVariables false
set_option linter.unusedSimpArgs false

theorem noGap_false (t : List Int) (k : Nat) (h1 : 1 ≤ k) (h4 : k < 4) (h : t.getD k 0 ≠ 0 ∧ t.getD (k - 1) 0 = 0) : noGap t = false := by
  have hg : gapAt t k = true := decide_eq_true h
  unfold noGap
  have : k = 1 ∨ k = 2 ∨ k = 3 := by omega
  rcases this with rfl | rfl | rfl <;> simp [hg]
theorem noGap_true (t : List Int) (h : ∀ j, 1 ≤ j → j < 4 → ¬ (t.getD j 0 ≠ 0 ∧ t.getD (j - 1) 0 = 0)) : noGap t = true := by
  have hg : ∀ j, 1 ≤ j → j < 4 → gapAt t j = false := fun j a b => decide_eq_false (h j a b)
  unfold noGap
  rw [hg 1 (by omega) (by omega), hg 2 (by omega) (by omega), hg 3 (by omega) (by omega)]; rfl

theorem hasNoGap_any (t : List Int) (w : World) (h4 : t.length = 4) :
    Calls Try.prog 69 #[row t] w fun e w' => e = .returned (.bool (noGap t)) ∧ Kept w w' := by
  have HB := Lib.hid ((kept_refl w).alloc (.cells (ints t).toArray 52))
  have H := Has.box w 52 h4 (by omega)
  rw [row_ints]
  go_enter Try.func69, Try.ntmps69
  go_wp2_with fail
  go_loop [3] (fun z => ∃ k : Nat, 1 ≤ k ∧ k ≤ 4 ∧ Hid (∀ j, 1 ≤ j → j < k → ¬ (t.getD j 0 ≠ 0 ∧ t.getD (j - 1) 0 = 0)) ∧ z = .int .i64 k) (fun z => 4 - (intOf z).toNat)
  case atStart => exact ⟨1, by omega, by omega, Lib.hid (fun j a b => by omega), rfl⟩
  case round =>
    obtain ⟨k, hk1, hk, HK, rfl⟩ := hrel
    by_cases h : k < 4
    · have c0 := H.cell k h
      have c1 := H.cell (k - 1) (by omega)
      have i1 : ((k : Int) - 1).toNat = k - 1 := by omega
      have HF := Lib.hid (noGap_false t k hk1 h)
      have HN := Lib.hid (show ¬ (t.getD k 0 ≠ 0 ∧ t.getD (k - 1) 0 = 0) → ∀ j, 1 ≤ j → j < k + 1 → ¬ (t.getD j 0 ≠ 0 ∧ t.getD (j - 1) 0 = 0) from fun hn j a b => by
        by_cases e : j = k
        · subst e; exact hn
        · exact HK.out j a (by omega))
      generalize t.getD k 0 = x at *
      generalize t.getD (k - 1) 0 = y at *
      by_cases h0 : x = 0
      · subst h0
        have R := Lib.hid (HN.out (by simp))
        go_wp2_with fail
        go_round
        case rel => exact ⟨k + 1, by omega, by omega, R, by go_num⟩
        case measure => simp [intOf]; omega
      · by_cases h5 : y = 0
        · have R := Lib.hid (HF.out ⟨h0, h5⟩)
          subst h5
          have q : (x == 0) = false := by simpa using h0
          have q2 : (x != 0) = true := by simpa using h0
          clear h0
          go_wp2_with fail
          go_ret
          exact ⟨ret_bool R.out.symm, HB.out⟩
        · have R := Lib.hid (HN.out (fun h => h5 h.2))
          have q : (x == 0) = false := by simpa using h0
          have q2 : (x != 0) = true := by simpa using h0
          have q5 : (y == 0) = false := by simpa using h5
          clear h0 h5
          go_wp2_with fail
          go_round
          case rel => exact ⟨k + 1, by omega, by omega, R, by go_num⟩
          case measure => simp [intOf]; omega
    · obtain rfl : k = 4 := by omega
      have E := Lib.hid (noGap_true t HK.out)
      go_wp2_with fail
      go_ret
      exact ⟨ret_bool E.out.symm, HB.out⟩

theorem rules_any (w : World) :
    Calls Try.prog 54 #[] w fun e w' => e = .returned (.agg #[.func (.func 68) #[] #[], .func (.func 69) #[] #[]]) ∧ Kept w w' := by
  go_enter Try.func54, Try.ntmps54
  go_wp2_with fail
  exact bodyPost_ret (results_cell_mid (P := Try.prog) rfl _ _ w.heap.size [.func (.func 68) #[] #[], .func (.func 69) #[] #[]] _ rfl
    (range_new w #[.func (.func 68) #[] #[], .func (.func 69) #[] #[]] 76) Try.underlying76 rfl (by kernel_rfl)) rfl ⟨rfl, (kept_refl w).alloc _⟩

theorem l1In_any (x a b : Int) (w : World) :
    Calls Try.prog 48 #[.int .i64 x, .int .i64 a, .int .i64 b] w fun e w' => e = .returned (.bool (decide (a ≤ x ∧ x ≤ b))) ∧ w = w' := by
  by_cases h0 : a ≤ x
  · go_enter Try.func48, Try.ntmps48
    go_wp2_with fail
    go_ret
    exact ⟨ret_bool (by simp [h0]), rfl⟩
  · have h1 := Lib.hid h0
    have q : decide (a ≤ x) = false := by simpa using h0
    clear h0
    go_enter Try.func48, Try.ntmps48
    go_wp2_with fail
    go_ret
    exact ⟨ret_bool (by have := h1.out; simp; try omega), rfl⟩
theorem l2Place_any (i : Int) (w : World) :
    Calls Try.prog 57 #[.int .i64 i] w fun e w' => e = .returned (.bool (decide (0 ≤ i ∧ i < 6))) ∧ w = w' := by
  go_enter Try.func57, Try.ntmps57
  go_wp2_with fail
  refine (l1In_any i 0 5 _).mono ?_
  rintro e w' ⟨rfl, rfl⟩
  go_wp2_with fail
  go_ret
  exact ⟨ret_bool (by rw [Bool.eq_iff_iff]; simp; omega), rfl⟩

def badAt (t : List Int) (k : Nat) : Prop := ¬ (0 ≤ t.getD k 0 ∧ t.getD k 0 ≤ 5) ∨ (0 < k ∧ 0 < t.getD k 0 ∧ t.getD (k - 1) 0 = 0)
theorem known_iff {t : List Int} (h4 : t.length = 4) : known t = true ↔ ∀ k, k < 4 → 0 ≤ t.getD k 0 ∧ t.getD k 0 ≤ 5 := by
  obtain ⟨a, b, c, d, rfl⟩ := len4 h4
  simp only [known, List.all_cons, List.all_nil, Bool.and_eq_true, decide_eq_true_eq, and_true]
  constructor
  · rintro ⟨h0, h1, h2, h3⟩ k hk
    match k, hk with
    | 0, _ => exact h0
    | 1, _ => exact h1
    | 2, _ => exact h2
    | 3, _ => exact h3
  · intro h
    exact ⟨h 0 (by omega), h 1 (by omega), h 2 (by omega), h 3 (by omega)⟩
theorem vT_good {t : List Int} (h4 : t.length = 4) (h : ∀ k, k < 4 → ¬ badAt t k) : vT t = true := by
  have hk : known t = true := (known_iff h4).2 fun k hk => Decidable.byContradiction fun hn => h k hk (.inl hn)
  unfold vT
  rw [hk, Bool.true_and]
  exact noGap_true t fun j a b hg => h j b (.inr ⟨a, by have := ((known_iff h4).1 hk j b).1; omega, hg.2⟩)
theorem vT_bad {t : List Int} (h4 : t.length = 4) (k : Nat) (hk : k < 4) (h : badAt t k) : vT t = false := by
  unfold vT
  rcases h with h | ⟨h0, h1, h2⟩
  · have : known t = false := by
      cases hb : known t with
      | false => rfl
      | true => exact absurd ((known_iff h4).1 hb k hk) h
    rw [this]; rfl
  · rw [noGap_false t k h0 hk ⟨by omega, h2⟩, Bool.and_false]

set_option maxHeartbeats 800000 in
theorem l2Rack_any (ns : List Int) (w : World) (h24 : ns.length = 24) :
    Calls Try.prog 29 #[row ns] w fun e w' => e = .returned (.bool (vR ns)) ∧ Kept w w' := by
  have HB := Lib.hid ((kept_refl w).alloc (.cells (ints ns).toArray 28))
  have H := Has.box w 28 h24 (by omega)
  have HL := Lib.hid h24
  rw [row_ints]
  clear h24
  go_enter Try.func29, Try.ntmps29
  go_wp2_with fail
  generalize w.alloc (.cells (ints ns).toArray 28) = W at *
  go_loopg [2, 3, 4] 6 (fun gk r i kk wr => ∃ p : Nat, gk = 6 - p ∧ p ≤ 6 ∧ r = .bool false ∧ i = .int .i64 p ∧ Hid (∀ q, q < p → vT (tub ns q) = true) ∧ W = wr)
  case atStart => exact ⟨0, rfl, by omega, rfl, rfl, Lib.hid (fun q h => by omega), rfl⟩
  case round =>
    obtain ⟨p, rfl, hp, rfl, rfl, HV, rfl⟩ := hrel
    by_cases hp6 : p < 6
    · have hpi : (p : Int) < 6 := by omega
      go_wp2_with fail
      go_loopg [2, 4] 4 (fun gk r kk wr => ∃ q : Nat, gk = 4 - q ∧ q ≤ 4 ∧ r = .bool false ∧ kk = .int .i64 q ∧ Hid (∀ j, j < q → ¬ badAt (tub ns p) j) ∧ W = wr)
      case atStart => exact ⟨0, rfl, by omega, rfl, rfl, Lib.hid (fun q h => by omega), rfl⟩
      case round =>
        obtain ⟨q, rfl, hq, rfl, rfl, HQ, rfl⟩ := hrel
        by_cases hq4 : q < 4
        · have c0 := H.rackCell p q hp6 hq4
          have HG := Lib.hid (show ¬ badAt (tub ns p) q → ∀ j, j < q + 1 → ¬ badAt (tub ns p) j from fun hn j hj => by
            by_cases e : j = q
            · subst e; exact hn
            · exact HQ.out j (by omega))
          have HF := Lib.hid (fun hb : badAt (tub ns p) q => vR_not p hp6 (vT_bad (tub_len ns p HL.out hp6) q hq4 hb))
          unfold badAt at HG HF
          by_cases hx : 0 ≤ (tub ns p).getD q 0 ∧ (tub ns p).getD q 0 ≤ 5
          · have R := Lib.hid HG
            have x0 := hx.1
            have x5 := hx.2
            by_cases hq0 : 0 < q
            · have c1 := H.rackCell p (q - 1) hp6 (by omega)
              have i1 : ((q : Int) - 1).toNat = q - 1 := by omega
              generalize (tub ns p).getD q 0 = x at *
              generalize (tub ns p).getD (q - 1) 0 = y at *
              by_cases hx0 : 0 < x
              · by_cases hy : y = 0
                · have R2 := Lib.hid (HF.out (.inr ⟨hq0, hx0, hy⟩))
                  subst hy
                  go_wp2_with fail
                  refine (l1In_any x 0 5 _).mono ?_
                  rintro e w' ⟨rfl, rfl⟩
                  rw [decide_eq_true hx]
                  clear hx
                  go_wp2_with fail
                  go_ret
                  exact ⟨ret_bool R2.out.symm, HB.out⟩
                · have R2 := Lib.hid (HG.out (by rintro (h | h); exact h hx; exact hy h.2.2))
                  have qy : (y == 0) = false := by simpa using hy
                  have hx' := hx
                  clear hy
                  go_wp2_with fail
                  refine (l1In_any x 0 5 _).mono ?_
                  rintro e w' ⟨rfl, rfl⟩
                  rw [decide_eq_true hx]
                  clear hx hx'
                  go_wp2_with fail
                  go_roundg (4 - (q + 1))
                  case rel => exact ⟨q + 1, rfl, by omega, rfl, by go_num, R2, rfl⟩
                  case measure => omega
              · have R2 := Lib.hid (HG.out (by rintro (h | h); exact h hx; exact hx0 h.2.1))
                have qx : decide (0 < x) = false := by simpa using hx0
                clear hx0
                go_wp2_with fail
                refine (l1In_any x 0 5 _).mono ?_
                rintro e w' ⟨rfl, rfl⟩
                rw [decide_eq_true hx]
                clear hx
                go_wp2_with fail
                go_roundg (4 - (q + 1))
                case rel => exact ⟨q + 1, rfl, by omega, rfl, by go_num, R2, rfl⟩
                case measure => omega
            · have R2 := Lib.hid (HG.out (by rintro (h | h); exact h hx; exact hq0 h.1))
              have qq : decide ((0 : Int) < (q : Int)) = false := by simp; omega
              have qq2 : decide (0 < q) = false := by simp; omega
              generalize (tub ns p).getD q 0 = x at *
              clear hq0
              go_wp2_with fail
              refine (l1In_any x 0 5 _).mono ?_
              rintro e w' ⟨rfl, rfl⟩
              rw [decide_eq_true hx]
              clear hx
              go_wp2_with fail
              go_roundg (4 - (q + 1))
              case rel => exact ⟨q + 1, rfl, by omega, rfl, by go_num, R2, rfl⟩
              case measure => omega
          · have R := Lib.hid (HF.out (.inl hx))
            generalize (tub ns p).getD q 0 = x at *
            go_wp2_with fail
            refine (l1In_any x 0 5 _).mono ?_
            rintro e w' ⟨rfl, rfl⟩
            rw [decide_eq_false hx]
            clear hx
            go_wp2_with fail
            go_ret
            exact ⟨ret_bool R.out.symm, HB.out⟩
        · have E := Lib.hid (vT_good (tub_len ns p HL.out hp6) fun k hk => HQ.out k (by omega))
          go_wp2_with fail
          go_roundg (6 - (p + 1))
          case rel => exact ⟨p + 1, rfl, by omega, rfl, by go_num, Lib.hid (fun j hj => by
            by_cases e : j = p
            · subst e; exact E.out
            · exact HV.out j (by omega)), rfl⟩
          case measure => omega
    · have E := Lib.hid (vR_of (ns := ns) fun i hi => HV.out i (by omega))
      go_wp2_with fail
      go_ret
      exact ⟨ret_bool E.out.symm, HB.out⟩

/-- How far the two rules have been asked. -/
def RuleAt (t : List Int) (g : Nat) (j : Value) : Prop := (g = 2 ∧ j = .int .i64 0) ∨ (g = 1 ∧ j = .int .i64 1 ∧ known t = true) ∨ (g = 0 ∧ j = .int .i64 2 ∧ vT t = true)
theorem indexRule0 (w : World) : (Instr.index 76 (.agg #[.func (.func 68) #[] #[], .func (.func 69) #[] #[]]) (.int .i64 0)).run Try.prog w = .ok (.func (.func 68) #[] #[]) w := by kernel_rfl
theorem indexRule1 (w : World) : (Instr.index 76 (.agg #[.func (.func 68) #[] #[], .func (.func 69) #[] #[]]) (.int .i64 1)).run Try.prog w = .ok (.func (.func 69) #[] #[]) w := by kernel_rfl

set_option maxHeartbeats 800000 in
theorem isRack_any (ns : List Int) (w : World) (h24 : ns.length = 24) :
    Calls Try.prog 34 #[row ns] w fun e w' => e = .returned (.bool (vR ns)) ∧ Kept w w' := by
  have HB := Lib.hid ((kept_refl w).alloc (.cells (ints ns).toArray 28))
  have H := Has.box w 28 h24 (by omega)
  have f0 := indexRule0
  have f1 := indexRule1
  rw [row_ints]
  go_enter Try.func34, Try.ntmps34
  go_wp2_with (refine load_has rfl 23 _ rfl _ rfl ?_ 24 ?_ _ Try.underlying23 rfl ?_ ?_; rotate_left; (· (repeat (first | (with_reducible assumption) | ((with_reducible refine Has.box _ _ ?_ ?_) <;> (first | assumption | decide)) | (with_reducible refine Has.alloc ?_ _) | ((with_reducible refine Has.putOther ?_ _ _ ?_); rotate_left; omega; skip) | ((with_reducible refine Has.below ?_ ?_); rotate_left; assumption)))); (· kernel_rfl))
  have HL := Lib.hid h24
  clear H h24
  generalize w.alloc (.cells (ints ns).toArray 28) = W at *
  go_loopg [9] 6 (fun gk i wr => ∃ p : Nat, gk = 6 - p ∧ p ≤ 6 ∧ i = .int .i64 p ∧ Hid (∀ q, q < p → vT (tub ns q) = true) ∧ Hid (Kept w wr))
  case atStart => exact ⟨0, rfl, by omega, rfl, Lib.hid (fun q h => by omega), HB⟩
  case round =>
    obtain ⟨p, rfl, hp, rfl, HV, HK⟩ := hrel
    by_cases hp6 : p < 6
    · have g0 := indexTub ns p hp6
      have h4 := tub_len ns p HL.out hp6
      have HF := Lib.hid (fun hb : vT (tub ns p) = false => vR_not p hp6 hb)
      have HE := Lib.hid (show vT (tub ns p) = true → ∀ j, j < p + 1 → vT (tub ns j) = true from fun h j hj => by
        by_cases e : j = p
        · subst e; exact h
        · exact HV.out j (by omega))
      generalize tub ns p = t at *
      have HK1 := Lib.hid (HK.out.alloc (.cells (ints t).toArray 22))
      have hpi : (p : Int) < 6 := by omega
      have HT := Has.box wr 22 h4 (by omega)
      go_wp2_with (refine store_new rfl 22 _ _ rfl _ _ _ rfl _ rfl _ rfl rfl ?_ ?_ ?_; (· (first | assumption | rfl)); (· kernel_rfl))
      refine (rules_any _).mono ?_
      rintro e w1 ⟨rfl, b1⟩
      have HT1 := Lib.hid (HT.below b1)
      have HK2 := Lib.hid (HK1.out.call b1)
      clear HT HK1 b1
      go_wp2_with fail
      go_loopg [13] 2 (fun gk j w2 => RuleAt t gk j ∧ Hid (Has w2 wr.heap.size t 4) ∧ Hid (Kept w w2))
      case atStart => exact ⟨.inl ⟨rfl, rfl⟩, HT1, HK2⟩
      case round =>
        obtain ⟨hr, HT3, HK3⟩ := hrel
        rcases hr with ⟨rfl, rfl⟩ | ⟨rfl, rfl, hkn⟩ | ⟨rfl, rfl, hvt⟩
        · have HT4 := HT3.out
          go_wp2_with (refine load_has rfl 22 _ rfl _ rfl ?_ 4 ?_ _ Try.underlying22 rfl ?_ ?_; rotate_left; (· (repeat (first | (with_reducible assumption) | ((with_reducible refine Has.box _ _ ?_ ?_) <;> (first | assumption | decide)) | (with_reducible refine Has.alloc ?_ _) | ((with_reducible refine Has.putOther ?_ _ _ ?_); rotate_left; omega; skip) | ((with_reducible refine Has.below ?_ ?_); rotate_left; assumption)))); (· kernel_rfl))
          refine (hasKnown_any t _ h4).mono ?_
          rintro e w4 ⟨rfl, b4⟩
          have HT5 := Lib.hid (HT4.below b4)
          have HK5 := Lib.hid (HK3.out.call b4)
          clear HT4 b4
          by_cases hkn : known t = true
          · rw [hkn]
            have HN := Lib.hid hkn
            clear hkn
            go_wp2_with fail
            go_roundg 1
            case rel => exact ⟨.inr (.inl ⟨rfl, rfl, HN.out⟩), HT5, HK5⟩
            case measure => omega
          · have hkf : known t = false := by simpa using hkn
            have R := Lib.hid (HF.out (by unfold vT; rw [hkf]; rfl))
            rw [hkf]
            clear hkn hkf
            go_wp2_with fail
            go_ret
            exact ⟨ret_bool R.out.symm, HK5.out⟩
        · have HT4 := HT3.out
          have HN := Lib.hid hkn
          clear hkn
          go_wp2_with (refine load_has rfl 22 _ rfl _ rfl ?_ 4 ?_ _ Try.underlying22 rfl ?_ ?_; rotate_left; (· (repeat (first | (with_reducible assumption) | ((with_reducible refine Has.box _ _ ?_ ?_) <;> (first | assumption | decide)) | (with_reducible refine Has.alloc ?_ _) | ((with_reducible refine Has.putOther ?_ _ _ ?_); rotate_left; omega; skip) | ((with_reducible refine Has.below ?_ ?_); rotate_left; assumption)))); (· kernel_rfl))
          refine (hasNoGap_any t _ h4).mono ?_
          rintro e w4 ⟨rfl, b4⟩
          have HT5 := Lib.hid (HT4.below b4)
          have HK5 := Lib.hid (HK3.out.call b4)
          clear HT4 b4
          by_cases hkn : noGap t = true
          · rw [hkn]
            have HN2 := Lib.hid (show vT t = true by unfold vT; rw [hkn, HN.out]; rfl)
            clear hkn
            go_wp2_with fail
            go_roundg 0
            case rel => exact ⟨.inr (.inr ⟨rfl, rfl, HN2.out⟩), HT5, HK5⟩
            case measure => omega
          · have hkf : noGap t = false := by simpa using hkn
            have R := Lib.hid (HF.out (by unfold vT; rw [hkf, Bool.and_false]))
            rw [hkf]
            clear hkn hkf
            go_wp2_with fail
            go_ret
            exact ⟨ret_bool R.out.symm, HK5.out⟩
        · have R := Lib.hid (HE.out hvt)
          clear hvt
          go_wp2_with fail
          go_roundg (6 - (p + 1))
          case rel => exact ⟨p + 1, rfl, by omega, by go_num, R, HK3⟩
          case measure => omega
    · have E := Lib.hid (vR_of (ns := ns) fun i hi => HV.out i (by omega))
      go_wp2_with fail
      go_ret
      exact ⟨ret_bool E.out.symm, HK.out⟩
end Go.Proofs.Ytpbfdjiglacbbab.base
