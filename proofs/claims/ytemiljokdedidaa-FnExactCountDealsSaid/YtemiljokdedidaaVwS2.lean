/-
  Valid views, hidden counts and the number of candidates, on the model's side, walked.
-/
import Derived.Test.YtemiljokdedidaaVwS
namespace Go.Proofs.Ytemiljokdedidaa.base
open Go.ChangeShapes Go.WideShapes Go.ChangeAt Go.RowKit
set_option linter.unusedVariables false
set_option linter.unusedSimpArgs false

set_option maxHeartbeats 400000 in
theorem l7Ways_core (s : List Int) (w : World) (h6 : s.length = 6) (hn : ∀ j, j < 6 → 0 ≤ s.getD j 0) (h0 : s.getD 0 0 = 0) (hs : StepOk s) (hp : plUp s 6 ≤ 24) :
    Calls Try.prog 39 #[row s] w fun e w' => e = .returned (.int .i64 (ordA s : Nat)) ∧ Kept w w' := by
  have H := Has.box w 22 h6 (by omega)
  have HB := Lib.hid ((kept_refl w).alloc (.cells (ints s).toArray 22))
  have HL := Lib.hid h6
  have HP := Lib.hid hp
  have HN := Lib.hid hn
  have HS := Lib.hid hs
  have M1 := Lib.hid (show mulUp s 1 = 1 by simp only [mulUp, plUp, h0, zero_bin])
  have P1 := Lib.hid (show plUp s 1 = 0 by simp only [plUp, h0]; rfl)
  have EO := Lib.hid (ordA_of hn)
  rw [row_ints]
  clear h6 hp hn h0 hs
  go_enter Try.func39, Try.ntmps39
  go_wp2_with fail
  generalize w.alloc (.cells (ints s).toArray 22) = W at *
  go_loopg [3, 4, 5] 5 (fun gk m n i wr => ∃ c : Nat, gk = 6 - c ∧ 1 ≤ c ∧ c ≤ 6 ∧ i = .int .i64 c ∧ m = .int .i64 (mulUp s c : Nat) ∧ n = .int .i64 (plUp s c : Nat) ∧ W = wr)
  case atStart => exact ⟨1, rfl, by omega, by omega, rfl, by rw [M1.out]; rfl, by rw [P1.out]; rfl, rfl⟩
  case round =>
    obtain ⟨c, rfl, hc1, hc, rfl, rfl, rfl, rfl⟩ := hrel
    by_cases hlt : c < 6
    · have hci : (c : Int) ≤ 5 := by omega
      obtain ⟨k, hk⟩ : ∃ k : Nat, s.getD c 0 = (k : Int) := ⟨(s.getD c 0).toNat, by have := HN.out c hlt; omega⟩
      have ST := Lib.hid (fun q hq => HS.out c k q hlt hk hq)
      have E0 := Lib.hid (show mulUp s c * bin (plUp s c) 0 = mulUp s c by rw [bin_zero, Nat.mul_one])
      have E1 := Lib.hid (show mulUp s (c + 1) = mulUp s c * bin (plUp s c) k by rw [mulUp, hk, Int.toNat_natCast])
      have E2 := Lib.hid (show plUp s (c + 1) = plUp s c + k by rw [plUp, hk, Int.toNat_natCast])
      have g0 := H.cell c hlt
      rw [hk] at g0
      clear hk
      have hci6 : (c : Int) < 6 := by omega
      have ks : k ≤ 24 := by
        have h1 := E2.out
        have h2 := plUp_le s (show c + 1 ≤ 6 by omega)
        have h3 := HP.out
        omega
      go_wp2_with fail
      go_loopg [3, 4, 6] k (fun gk m n i wr => ∃ q : Nat, gk = k - q ∧ q ≤ k ∧ i = .int .i64 ((q : Int) + 1) ∧ m = .int .i64 (mulUp s c * bin (plUp s c) q : Nat) ∧ n = .int .i64 (plUp s c + q : Nat) ∧ W = wr)
      case atStart => exact ⟨0, rfl, by omega, rfl, by rw [E0.out], rfl, rfl⟩
      case round =>
        obtain ⟨q, rfl, hq, rfl, rfl, rfl, rfl⟩ := hrel
        by_cases hqk : q < k
        · have hqi : decide ((q : Int) + 1 ≤ (k : Int)) = true := decide_eq_true (by omega)
          obtain ⟨X, Z, Y, pl, e1, e2, e3, hpl, w1, w2, w3⟩ := ST.out q hqk
          rw [← e1, ← e3]
          have E4 := Lib.hid e2
          have E5 := Lib.hid e3
          have qk : q < 1000 := by omega
          clear e1 e2 e3
          have q1 : ((q : Int) + 1 == 0) = false := by simp; omega
          have HQ := Lib.hid (show q + 1 ≤ k from hqk)
          go_wp2_with fail
          go_roundg (k - (q + 1))
          case rel => exact ⟨q + 1, rfl, HQ.out, by go_num, by rw [← E4.out], by rw [E5.out]; go_num, rfl⟩
          case measure => omega
        · obtain rfl : q = k := by omega
          have hqi : decide ((q : Int) + 1 ≤ (q : Int)) = false := decide_eq_false (by omega)
          rw [← E1.out, ← E2.out]
          go_wp2_with fail
          go_roundg (6 - (c + 1))
          case rel => exact ⟨c + 1, rfl, by omega, by omega, by go_num, rfl, rfl, rfl⟩
          case measure => omega
    · obtain rfl : c = 6 := by omega
      go_wp2_with fail
      go_ret
      exact ⟨by rw [EO.out]; rfl, HB.out⟩

theorem l7Ways_any (s : List Int) (w : World) (h6 : s.length = 6) (hn : ∀ j, j < 6 → 0 ≤ s.getD j 0) (h0 : s.getD 0 0 = 0) (hp : plUp s 6 ≤ 18) :
    Calls Try.prog 39 #[row s] w fun e w' => e = .returned (.int .i64 (ordA s : Nat)) ∧ Kept w w' :=
  l7Ways_core s w h6 hn h0 (step18 s h6 hp) (by omega)

set_option maxHeartbeats 800000 in
set_option maxRecDepth 100000 in
theorem l7Good_any (vs : List Int) (w : World) (h : vs.length = 18) (hw : Wf vs) :
    Calls Try.prog 47 #[row vs] w fun e w' => e = .returned (.bool (vV vs)) ∧ Kept w w' := by
  have H := Has.box w 36 h (by omega)
  have HB := Lib.hid ((kept_refl w).alloc (.cells (ints vs).toArray 36))
  have HWF := Lib.hid hw
  rw [row_ints]
  go_enter Try.func47, Try.ntmps47
  go_wp2_with fail
  generalize w.alloc (.cells (ints vs).toArray 36) = W at *
  go_loopg [3] 6 (fun gk i wr => ∃ k : Nat, gk = 6 - k ∧ k ≤ 6 ∧ i = .int .i64 k ∧ Hid (∀ j, j < k → okTop vs j = true) ∧ Has wr w.heap.size vs 18 ∧ Hid (Kept w wr))
  case atStart => exact ⟨0, rfl, by omega, rfl, Lib.hid (fun j hj => by omega), H, HB⟩
  case round =>
    obtain ⟨k, rfl, hk, rfl, OK, GH, GB⟩ := hrel
    by_cases hlt : k < 6
    · have hki : (k : Int) < 6 := by omega
      have c1 := GH.vCell 1 k (by omega) hlt
      have c0 := GH.vCell 0 k (by omega) hlt
      have e1 : (prt vs 1).getD k 0 = vMany vs k := rfl
      have e0 : (prt vs 0).getD k 0 = vTop vs k := rfl
      rw [e1] at c1
      rw [e0] at c0
      simp only [Nat.zero_mul, Nat.one_mul, Nat.zero_add] at c0 c1
      have EO : Hid (okTop vs k = decide ((1 ≤ vMany vs k ∧ vMany vs k ≤ 4 ∧ 1 ≤ vTop vs k ∧ vTop vs k ≤ 5) ∨ (vMany vs k = 0 ∧ vTop vs k = 0))) := Lib.hid rfl
      have YES := Lib.hid (show okTop vs k = true → ∀ j, j < k + 1 → okTop vs j = true from fun hy j hj => by
        by_cases e : j = k
        · subst e; exact hy
        · exact OK.out j (by omega))
      have NO := Lib.hid (show okTop vs k = false → vV vs = false from fun hn => vV_tops (topV_not k hlt hn))
      clear e1 e0 OK
      generalize vMany vs k = m at *
      generalize vTop vs k = t at *
      have HI1 := Lib.hid (fun W => (l1In_any m 0 4 W).mono fun _ _ h => And.intro h.1 h.2.symm)
      have HI2 := Lib.hid (fun W => (l1In_any t 0 5 W).mono fun _ _ h => And.intro h.1 h.2.symm)
      by_cases hm : 0 ≤ m ∧ m ≤ 4
      · rw [decide_eq_true hm] at HI1
        by_cases ht : 0 ≤ t ∧ t ≤ 5
        · rw [decide_eq_true ht] at HI2
          obtain ⟨b1, hb1⟩ : ∃ b1, (m == 0) = b1 := ⟨_, rfl⟩
          obtain ⟨b2, hb2⟩ : ∃ b2, (t == 0) = b2 := ⟨_, rfl⟩
          by_cases hb : b1 = b2
          · have Y := Lib.hid (YES.out (by
              rw [EO.out]
              refine decide_eq_true ?_
              rw [← hb1, ← hb2] at hb
              by_cases e : m = 0
              · subst e; simp at hb; right; exact ⟨rfl, by omega⟩
              · left
                have : ¬ t = 0 := by
                  intro e2; subst e2; simp at hb; exact e hb
                omega))
            subst hb
            clear YES NO EO hm ht
            go_wp2_with fail
            go_quiet (first | (go_at_call 42; with_reducible exact Calls.quiet_of_same (HI1.out _)) | (go_at_call 42; with_reducible exact Calls.quiet_of_same (HI2.out _)))
            have GH2 := GH.drewN nq
            have GB2 := Lib.hid (GB.out.drewN nq)
            clear hb1 hb2
            go_wp2_with fail
            go_roundg (6 - (k + 1))
            case rel => exact ⟨k + 1, rfl, by omega, by go_num, Y, GH2, GB2⟩
            case measure => omega
          · have N := Lib.hid (NO.out (by
              rw [EO.out]
              refine decide_eq_false ?_
              intro hor
              apply hb
              rw [← hb1, ← hb2]
              rcases hor with h1 | h1
              · have e1 : (m == 0) = false := by simp; omega
                have e2 : (t == 0) = false := by simp; omega
                rw [e1, e2]
              · rw [h1.1, h1.2]))
            clear YES NO EO hm ht
            go_wp2_with fail
            have hb4 : b2 = !b1 := by cases b1 <;> cases b2 <;> simp at hb ⊢
            subst hb4
            clear hb
            cases b1
            all_goals
              simp only [Bool.not_false, Bool.not_true] at hb2
              go_quiet (first | (go_at_call 42; with_reducible exact Calls.quiet_of_same (HI1.out _)) | (go_at_call 42; with_reducible exact Calls.quiet_of_same (HI2.out _)))
              have GB2 := Lib.hid (GB.out.drewN nq)
              clear hb1 hb2
              go_wp2_with fail
              go_ret
              exact ⟨by rw [N.out]; rfl, GB2.out⟩
        · rw [decide_eq_false ht] at HI2
          have N := Lib.hid (NO.out (by rw [EO.out]; exact decide_eq_false (by rintro (h | h) <;> omega)))
          clear YES NO EO hm ht
          go_wp2_with fail
          go_quiet (first | (go_at_call 42; with_reducible exact Calls.quiet_of_same (HI1.out _)) | (go_at_call 42; with_reducible exact Calls.quiet_of_same (HI2.out _)))
          have GB2 := Lib.hid (GB.out.drewN nq)
          go_wp2_with fail
          go_ret
          exact ⟨by rw [N.out]; rfl, GB2.out⟩
      · rw [decide_eq_false hm] at HI1
        have N := Lib.hid (NO.out (by rw [EO.out]; exact decide_eq_false (by rintro (h | h) <;> omega)))
        clear YES NO EO hm
        go_wp2_with fail
        go_quiet (first | (go_at_call 42; with_reducible exact Calls.quiet_of_same (HI1.out _)) | (go_at_call 42; with_reducible exact Calls.quiet_of_same (HI2.out _)))
        have GB2 := Lib.hid (GB.out.drewN nq)
        go_wp2_with fail
        go_ret
        exact ⟨by rw [N.out]; rfl, GB2.out⟩
    · obtain rfl : k = 6 := by omega
      have ht := topV_of OK.out
      have HL := Lib.hid (show (wrL (hid vs)).length = 6 by rw [wrL_len]; exact hid_len h)
      have HX := Lib.hid (fun c hc => hid_wrap h ht HWF.out c hc)
      have HT := Lib.hid ht
      have H18 := Lib.hid h
      go_wp2_with (refine load_has rfl 36 _ rfl _ rfl ?_ 18 ?_ _ Try.underlying36 rfl ?_ ?_; rotate_left; (· (repeat (first | (with_reducible assumption) | ((with_reducible refine Has.box _ _ ?_ ?_) <;> (first | assumption | decide)) | (with_reducible refine Has.alloc ?_ _) | ((with_reducible refine Has.putOther ?_ _ _ ?_); rotate_left; omega; skip) | ((with_reducible refine Has.below ?_ ?_); rotate_left; assumption)))); (· kernel_rfl))
      refine (l7Hidden_any vs _ h ht HWF.out).mono ?_
      rintro e w1 ⟨rfl, b1⟩
      have hl := HL.out
      have GY := Has.box w1 22 hl (by omega)
      have GH1 := (GH.below b1).alloc (.cells (ints (wrL (hid vs))).toArray 22)
      have GB1 := Lib.hid ((GB.out.call b1).alloc (.cells (ints (wrL (hid vs))).toArray 22))
      clear GH GB H HB b1 ht OK
      go_wp2_with (refine store_new rfl 22 _ _ rfl _ _ _ rfl _ rfl _ rfl rfl ?_ ?_ ?_; (· (first | assumption | rfl)); (· kernel_rfl))
      generalize w1.alloc (.cells (ints (wrL (hid vs))).toArray 22) = W1 at *
      generalize w1.heap.size = b1 at *
      go_loopg [6, 7] 5 (fun gk m i wr => ∃ c : Nat, gk = 6 - c ∧ 1 ≤ c ∧ c ≤ 6 ∧ i = .int .i64 c ∧ m = .int .i64 (sumUp (hid vs) c - (hid vs).getD 0 0) ∧ Hid (∀ j, 1 ≤ j → j < c → 0 ≤ (hid vs).getD j 0 ∧ (hid vs).getD j 0 ≤ 24) ∧ Hid (0 ≤ sumUp (hid vs) c - (hid vs).getD 0 0 ∧ sumUp (hid vs) c - (hid vs).getD 0 0 ≤ 24 * (c : Int)) ∧ W1 = wr)
      case atStart => exact ⟨1, rfl, by omega, by omega, rfl, by simp [sumUp], Lib.hid (fun j h1 h2 => by omega), Lib.hid (by simp [sumUp]), rfl⟩
      case round =>
        obtain ⟨c, rfl, hc1, hc, rfl, rfl, HN, HS, rfl⟩ := hrel
        by_cases hct : c < 6
        · have hci : (c : Int) ≤ 5 := by omega
          have hci6 : (c : Int) < 6 := by omega
          have d0 := GY.cell c hct
          have xw := HX.out c hct
          have E : Hid (sumUp (hid vs) (c + 1) = sumUp (hid vs) c + (hid vs).getD c 0) := Lib.hid rfl
          have HS1 := HS.out
          generalize hx : (wrL (hid vs)).getD c 0 = x at *
          have HI := Lib.hid (fun W => (l1In_any x 0 24 W))
          have hxx := Lib.hid hx
          clear hx
          by_cases hin : 0 ≤ x ∧ x ≤ 24
          · have e := xw.1 hin
            have N := Lib.hid (show ∀ j, 1 ≤ j → j < c + 1 → 0 ≤ (hid vs).getD j 0 ∧ (hid vs).getD j 0 ≤ 24 from fun j h1 h2 => by
              by_cases e2 : j = c
              · subst e2; rw [e]; exact hin
              · exact HN.out j h1 (by omega))
            have S := Lib.hid (show 0 ≤ sumUp (hid vs) (c + 1) - (hid vs).getD 0 0 ∧ sumUp (hid vs) (c + 1) - (hid vs).getD 0 0 ≤ 24 * ((c + 1 : Nat) : Int) by rw [E.out, e]; omega)
            have E2 := Lib.hid (show sumUp (hid vs) (c + 1) - (hid vs).getD 0 0 = sumUp (hid vs) c - (hid vs).getD 0 0 + x by rw [E.out, e]; omega)
            have x0 := hin.1
            have x1 := hin.2
            have s0 := HS1.1
            have s1 : sumUp (hid vs) c - (hid vs).getD 0 0 ≤ 200 := by omega
            clear xw e E HS HN HS1
            generalize sumUp (hid vs) c - (hid vs).getD 0 0 = y at *
            go_wp2_with fail
            refine (HI.out _).mono ?_
            rintro e w' ⟨rfl, rfl⟩
            rw [decide_eq_true hin]
            clear hin
            go_wp2_with fail
            go_roundg (6 - (c + 1))
            case rel => exact ⟨c + 1, rfl, by omega, by omega, by go_num, by rw [E2.out], N, S, rfl⟩
            case measure => omega
          · have N := Lib.hid (show vV vs = false by
              by_cases h1 : (hid vs).getD c 0 < 0
              · exact vV_debt c hct h1
              · by_cases h2 : 24 < (hid vs).getD c 0
                · exact vV_many H18.out c hct h2
                · have := xw.2 (by omega)
                  omega)
            clear xw E HS HN HS1
            generalize sumUp (hid vs) c - (hid vs).getD 0 0 = y at *
            go_wp2_with fail
            refine (HI.out _).mono ?_
            rintro e w' ⟨rfl, rfl⟩
            rw [decide_eq_false hin]
            clear hin
            go_wp2_with fail
            go_ret
            exact ⟨by rw [N.out]; rfl, GB1.out⟩
        · obtain rfl : c = 6 := by omega
          have EV := Lib.hid (vV_spec H18.out HT.out (fun c h1 h2 => (HN.out c h2 h1).1))
          have c2 := GH1.vCell 2 0 (by omega) (by omega)
          have em : (prt vs 2).getD 0 0 = vCnt vs 0 := rfl
          rw [em] at c2
          simp only [Nat.reduceMul, Nat.add_zero] at c2
          clear em HS
          generalize sumUp (hid vs) 6 - (hid vs).getD 0 0 = y at *
          generalize vCnt vs 0 = z at *
          generalize belUp vs 6 = u at *
          by_cases hz : z = 0
          · subst hz
            by_cases hy : y = u
            · subst hy
              go_wp2_with fail
              go_ret
              exact ⟨by rw [EV.out]; simp, GB1.out⟩
            · have y0 : (y == u) = false := by simpa using hy
              have N := Lib.hid (decide_eq_false hy)
              clear hy
              go_wp2_with fail
              go_ret
              exact ⟨by rw [EV.out, N.out]; rfl, GB1.out⟩
          · have z0 : (z == 0) = false := by simpa using hz
            have N := Lib.hid (decide_eq_false hz)
            clear hz
            go_wp2_with fail
            go_ret
            exact ⟨by rw [EV.out, N.out]; rfl, GB1.out⟩

theorem specIsView (vs : List Int) (w : World) (h : vs.length = 18) (hw : Wf vs) :
    Calls Try.prog 23 #[row vs] w fun e w' => e = .returned (.bool (vV vs)) ∧ Kept w w' := by
  have H := Has.box w 36 h (by omega)
  have HB := Lib.hid ((kept_refl w).alloc (.cells (ints vs).toArray 36))
  rw [row_ints]
  go_enter Try.func23, Try.ntmps23
  go_wp2_with (refine load_has rfl 36 _ rfl _ rfl ?_ 18 ?_ _ Try.underlying36 rfl ?_ ?_; rotate_left; (· (repeat (first | (with_reducible assumption) | ((with_reducible refine Has.box _ _ ?_ ?_) <;> (first | assumption | decide)) | (with_reducible refine Has.alloc ?_ _) | ((with_reducible refine Has.putOther ?_ _ _ ?_); rotate_left; omega; skip) | ((with_reducible refine Has.below ?_ ?_); rotate_left; assumption)))); (· kernel_rfl))
  refine (l7Good_any vs _ h hw).mono ?_
  rintro e w1 ⟨rfl, b1⟩
  have HB1 := Lib.hid (HB.out.call b1)
  clear b1
  go_wp2_with fail
  go_ret
  exact ⟨rfl, HB1.out⟩
end Go.Proofs.Ytemiljokdedidaa.base
