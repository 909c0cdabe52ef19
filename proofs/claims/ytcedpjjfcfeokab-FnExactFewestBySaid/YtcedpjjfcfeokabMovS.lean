/-
  How many layers a pour by a rule moves, and moving them, on the model's side, walked.
-/
import Derived.Test.YtcedpjjfcfeokabDepIZ
import Derived.Test.YtcedpjjfcfeokabPourMZ
namespace Go.Proofs.Ytcedpjjfcfeokab.base
open Go.ChangeShapes Go.WideShapes Go.ChangeAt Go.RowKit
set_option linter.unusedVariables false
set_option linter.unusedSimpArgs false

theorem ruleV_cases {x : Int} (h : ruleV x = true) : x = 1 ∨ x = 2 ∨ x = 3 ∨ x = 4 := by
  have := of_decide_eq_true h
  omega
theorem least8_any (a b : Int) (w : World) :
    Calls Try.prog 45 #[.int .i64 a, .int .i64 b] w fun e w' => e = .returned (.int .i64 (min a b)) ∧ w = w' := by
  by_cases h : a < b
  · have e : min a b = a := by omega
    rw [e]
    clear e
    go_enter Try.func45, Try.ntmps45
    go_wp2_with fail
    go_ret
    exact ⟨rfl, rfl⟩
  · have e : min a b = b := by omega
    have q : decide (a < b) = false := by simpa using h
    rw [e]
    clear e h
    go_enter Try.func45, Try.ntmps45
    go_wp2_with fail
    go_ret
    exact ⟨rfl, rfl⟩

set_option maxHeartbeats 6400000 in
set_option maxRecDepth 100000 in
theorem l8Moves_any (ns ds : List Int) (x : Int) (p q : Nat) (w : World) (h24 : ns.length = 24) (h6 : ds.length = 6) (hfit : fitA ns ds = true) (hrule : ruleV x = true) (hp : p < 6) (hq : q < 6) :
    Calls Try.prog 26 #[row ns, row ds, .int .i64 x, .int .i64 (p : Nat), .int .i64 (q : Nat)] w fun e w' => e = .returned (.int .i64 (mvN ns ds x p q : Nat)) ∧ Kept w w' := by
  have HB := Lib.hid (((kept_refl w).alloc (.cells (ints ns).toArray 30)).alloc (.cells (ints ds).toArray 26))
  have H := (Has.box w 30 h24 (by omega)).alloc (.cells (ints ds).toArray 26)
  have D := (Has.box (w.alloc (.cells (ints ns).toArray 30)) 26 h6 (by omega)).at (size1 _ _)
  have hv := (fit_of hfit).1
  have sp := tub_len ns p h24 hp
  have sq := tub_len ns q h24 hq
  have vp := vR_tub hv p hp
  have vq := vR_tub hv q hq
  have FP := tubeFacts sp vp
  have FQ := tubeFacts sq vq
  have hpi : (p : Int) < 6 := by omega
  have hqi : (q : Int) < 6 := by omega
  have l2 : (ints (tub ns q)).length = 4 := by rw [ints_len]; exact sq
  have hi2 : (Try.prog.info? 22).map (·.size) = some (ints (tub ns q)).length := by rw [l2]; kernel_rfl
  have RE := room_eq h24 hfit q hq
  have DE := vD_at (fit_of hfit).2.1 q hq
  have hl4 := FQ.lay4
  have hn4 : topN (tub ns p) ≤ 4 := by have := FP.topN; have := FP.lay4; omega
  have hc5 := FP.c5
  have hc0 := FP.c0
  obtain ⟨d, hd⟩ : ∃ d : Int, ds.getD q 0 = d := ⟨_, rfl⟩
  have HD := Lib.hid hd
  rw [hd] at RE DE
  clear hd
  have EM := Lib.hid (show mvN ns ds x p q = if p = q then 0 else mvT x (tub ns p) (tub ns q) (roomD ns ds q) from rfl)
  obtain ⟨rm, hrm⟩ : ∃ rm : Nat, roomD ns ds q = rm := ⟨_, rfl⟩
  rw [hrm] at RE EM
  clear hrm
  rw [row_ints, row_ints]
  go_enter Try.func26, Try.ntmps26
  go_wp2_with (refine load_tub rfl 22 _ rfl _ (p) _ rfl ?_ ?_ ?_ ?_ _ Try.underlying22 rfl ?_ ?_; (· (first | rfl | omega)); rotate_left; (· (repeat (first | (with_reducible assumption) | ((with_reducible refine Has.box _ _ ?_ ?_) <;> (first | assumption | decide)) | (with_reducible refine Has.alloc ?_ _) | ((with_reducible refine Has.putOther ?_ _ _ ?_); rotate_left; omega; skip) | ((with_reducible refine Has.below ?_ ?_); rotate_left; assumption)))); (· omega); (· kernel_rfl))
  refine (l2Top_any (tub ns p) _ sp vp).mono ?_
  rintro e w1 ⟨rfl, b1⟩
  have H1 := H.below b1
  have D1 := D.below b1
  have HB1 := Lib.hid (HB.out.call b1)
  clear H D HB b1
  go_wp2_with (refine load_tub rfl 22 _ rfl _ (q) _ rfl ?_ ?_ ?_ ?_ _ Try.underlying22 rfl ?_ ?_; (· (first | rfl | omega)); rotate_left; (· (repeat (first | (with_reducible assumption) | ((with_reducible refine Has.box _ _ ?_ ?_) <;> (first | assumption | decide)) | (with_reducible refine Has.alloc ?_ _) | ((with_reducible refine Has.putOther ?_ _ _ ?_); rotate_left; omega; skip) | ((with_reducible refine Has.below ?_ ?_); rotate_left; assumption)))); (· omega); (· kernel_rfl))
  refine (l2Top_any (tub ns q) _ sq vq).mono ?_
  rintro e w2 ⟨rfl, b2⟩
  have H2 := (H1.below b2).drew
  have D2 := (D1.below b2).drew
  have HB2 := Lib.hid ((HB1.out.call b2).drewN 1)
  clear H1 D1 HB1 b2
  go_wp2_with fail
  refine wp_region_held_drew (S := fun w' => Has w' w.heap.size ns 24 ∧ Has w' (w.heap.size + 1) ds 6) (by kernel_rfl) ⟨H2, D2⟩ (fun hHeld => ?_)
  (refine wpAnyH_take (i := 0) (v := ?_) rfl (by kernel_rfl) (by kernel_rfl) (by kernel_rfl) (fun _ _ _ h => h) (Or.inl ⟨by rfl, ?_⟩) hHeld ?_; rotate_left; (· (intro w' hSw; go_simp; try with_reducible rfl)); (try simp only [List.getElem_toArray, List.getElem_cons_zero, List.getElem_cons_succ, Act.put, List.setIfInBounds_toArray, List.set_cons_zero, List.set_cons_succ])); (refine wpAnyH_take (i := 1) (v := ?_) rfl (by kernel_rfl) (by kernel_rfl) (by kernel_rfl) (fun _ _ _ h => h) (Or.inl ⟨by rfl, ?_⟩) hHeld ?_; rotate_left; (· (intro w' hSw; go_simp; try with_reducible rfl)); (try simp only [List.getElem_toArray, List.getElem_cons_zero, List.getElem_cons_succ, Act.put, List.setIfInBounds_toArray, List.set_cons_zero, List.set_cons_succ])); (refine wpAnyH_take (i := 3) (v := ?_) rfl (by kernel_rfl) (by kernel_rfl) (by kernel_rfl) (fun _ _ _ h => h) (Or.inl ⟨by rfl, ?_⟩) hHeld ?_; rotate_left; (· (intro w' hSw; go_simp; try with_reducible rfl)); (try simp only [List.getElem_toArray, List.getElem_cons_zero, List.getElem_cons_succ, Act.put, List.setIfInBounds_toArray, List.set_cons_zero, List.set_cons_succ])); (refine wpAnyH_take (i := 4) (v := ?_) rfl (by kernel_rfl) (by kernel_rfl) (by kernel_rfl) (fun _ _ _ h => h) (Or.inl ⟨by rfl, ?_⟩) hHeld ?_; rotate_left; (· (intro w' hSw; go_simp; try with_reducible rfl)); (try simp only [List.getElem_toArray, List.getElem_cons_zero, List.getElem_cons_succ, Act.put, List.setIfInBounds_toArray, List.set_cons_zero, List.set_cons_succ])); (refine wpAnyH_take (i := 5) (v := ?_) rfl (by kernel_rfl) (by kernel_rfl) (by kernel_rfl) (fun _ _ _ h => h) (Or.inl ⟨by rfl, ?_⟩) hHeld ?_; rotate_left; (· (intro w' hSw; go_simp; try with_reducible rfl)); (try simp only [List.getElem_toArray, List.getElem_cons_zero, List.getElem_cons_succ, Act.put, List.setIfInBounds_toArray, List.set_cons_zero, List.set_cons_succ]))
  (refine wpAnyH_take (i := 2) (v := .int .i64 d) rfl (by kernel_rfl) (by kernel_rfl) (by kernel_rfl) (fun _ _ _ h => h) (Or.inl ⟨by rfl, ?_⟩) hHeld ?_; (· (intro w' hSw; have q := hSw.2.cellE hq HD.out; clear hSw; go_simp; try with_reducible rfl)); (try simp only [List.getElem_toArray, List.getElem_cons_zero, List.getElem_cons_succ, Act.put, List.setIfInBounds_toArray, List.set_cons_zero, List.set_cons_succ]))
  (refine wpAnyH_take (i := 6) (v := _) rfl (by kernel_rfl) (by kernel_rfl) (by kernel_rfl) (fun _ _ _ h => h) (yieldsIf_load_mid (by rfl) 22 _ rfl _ _ rfl (ints (tub ns q)) _ (fun w' hSw => hSw.1.holds.sub (q * 4) 4) Try.underlying22 rfl (hi2)) hHeld ?_; (try simp only [List.getElem_toArray, List.getElem_cons_zero, List.getElem_cons_succ, Act.put, List.setIfInBounds_toArray, List.set_cons_zero, List.set_cons_succ]))
  (refine wpAnyH_ready (rs := [7]) (by kernel_rfl) (by simp) ?_; refine AllReadyH.cons (o := _) rfl (fun K hK => ?_) AllReadyH.nil; (simp only [List.getElem_toArray, List.getElem_cons_zero, List.getElem_cons_succ, Region.wanted, if_true]))
  go_simp
  refine (l2Many_any (tub ns q) _ sq vq).mono ?_
  rintro e w3 ⟨rfl, b3⟩
  dsimp only
  (try simp only [List.getElem_toArray, List.getElem_cons_zero, List.getElem_cons_succ, Act.put, List.setIfInBounds_toArray, List.set_cons_zero, List.set_cons_succ])
  refine hK.out _ _ ⟨H2.below b3, D2.below b3⟩ (fun hHeld => ?_)
  clear hK K
  have HB3 := Lib.hid (HB2.out.call b3)
  clear H2 D2 HB2 b3
  (refine wpAnyH_take (i := 8) (v := ?_) rfl (by kernel_rfl) (by kernel_rfl) (by kernel_rfl) (fun _ _ _ h => h) (Or.inl ⟨by rfl, ?_⟩) hHeld ?_; rotate_left; (· (intro w' hSw; go_simp; try with_reducible rfl)); (try simp only [List.getElem_toArray, List.getElem_cons_zero, List.getElem_cons_succ, Act.put, List.setIfInBounds_toArray, List.set_cons_zero, List.set_cons_succ])); (refine wpAnyH_take (i := 9) (v := ?_) rfl (by kernel_rfl) (by kernel_rfl) (by kernel_rfl) (fun _ _ _ h => h) (Or.inl ⟨by rfl, ?_⟩) hHeld ?_; rotate_left; (· (intro w' hSw; go_simp; try with_reducible rfl)); (try simp only [List.getElem_toArray, List.getElem_cons_zero, List.getElem_cons_succ, Act.put, List.setIfInBounds_toArray, List.set_cons_zero, List.set_cons_succ]))
  refine wpAnyH_done (by kernel_rfl) ?_ _
  have hsw : IntKind.i64.wrap (d - ((lay (tub ns q) : Nat) : Int)) = (rm : Int) := by rw [← RE.1]; exact IntWalk.i64_in _ (by omega)
  rw [hsw]
  have hr4 : rm ≤ 4 := by omega
  clear hHeld hi2 l2 hsw RE HD DE hl4
  obtain ⟨n, hn⟩ : ∃ n : Nat, topN (tub ns p) = n := ⟨_, rfl⟩
  obtain ⟨c, hc⟩ : ∃ c : Int, topC (tub ns p) = c := ⟨_, rfl⟩
  obtain ⟨o, ho⟩ : ∃ o : Int, topC (tub ns q) = o := ⟨_, rfl⟩
  have EV := Lib.hid (show mvT x (tub ns p) (tub ns q) rm = if n = 0 ∨ rm = 0 ∨ (x ≠ 4 ∧ o ≠ 0 ∧ o ≠ c) then 0 else if x = 1 then min n rm else if x = 3 then (if rm < n then 0 else n) else 1 by
    unfold mvT; rw [hn, hc, ho])
  rw [hn, hc, ho]
  rw [hn] at hn4
  clear hn hc ho hc5 hc0 FP FQ
  by_cases hpq : p = q
  · have R := Lib.hid (show mvN ns ds x p q = 0 by rw [EM.out, if_pos hpq])
    have e1 : ((p : Int) == (q : Int)) = true := by simp [hpq]
    have e2 : (p == q) = true := by simp [hpq]
    clear hpq
    go_wp2_with fail
    go_ret
    exact ⟨ret_int (by rw [R.out]; rfl), HB3.out⟩
  · have EM2 := Lib.hid (show mvN ns ds x p q = mvT x (tub ns p) (tub ns q) rm by rw [EM.out, if_neg hpq])
    have e1 : ((p : Int) == (q : Int)) = false := by simp; omega
    have e2 : (p == q) = false := by simp; omega
    clear hpq EM
    by_cases h0 : n = 0
    · have R := Lib.hid (show mvN ns ds x p q = 0 by rw [EM2.out, EV.out, if_pos (.inl h0)])
      subst h0
      go_wp2_with fail
      go_ret
      exact ⟨ret_int (by rw [R.out]; rfl), HB3.out⟩
    · have n1 : ((n : Int) == 0) = false := by simp; omega
      have n2 : (n == 0) = false := by simp; omega
      by_cases hm0 : rm = 0
      · have R := Lib.hid (show mvN ns ds x p q = 0 by rw [EM2.out, EV.out, if_pos (.inr (.inl hm0))])
        subst hm0
        clear h0
        go_wp2_with fail
        go_ret
        exact ⟨ret_int (by rw [R.out]; rfl), HB3.out⟩
      · have m1 : ((rm : Int) == 0) = false := by simp; omega
        have m2 : (rm == 0) = false := by simp; omega
        by_cases hx : x ≠ 4 ∧ o ≠ 0 ∧ o ≠ c
        · have R := Lib.hid (show mvN ns ds x p q = 0 by rw [EM2.out, EV.out, if_pos (.inr (.inr hx))])
          obtain ⟨x4, o0, oc⟩ := hx
          have q1 : (x != 4) = true := by simpa using x4
          have q2 : (o != 0) = true := by simpa using o0
          have q3 : (o != c) = true := by simpa using oc
          have q4 : (x == 4) = false := by simpa using x4
          have q5 : (o == 0) = false := by simpa using o0
          have q6 : (o == c) = false := by simpa using oc
          clear x4 o0 oc h0 hm0
          go_wp2_with fail
          go_ret
          exact ⟨ret_int (by rw [R.out]; rfl), HB3.out⟩
        · have EV2 := Lib.hid (show mvN ns ds x p q = if x = 1 then min n rm else if x = 3 then (if rm < n then 0 else n) else 1 by
            rw [EM2.out, EV.out, if_neg]
            rintro (h | h | h)
            · exact h0 h
            · exact hm0 h
            · exact hx h)
          clear EV EM2
          have tail : True := trivial
          rcases ruleV_cases hrule with rfl | rfl | rfl | rfl
          · have R := Lib.hid (show ((mvN ns ds 1 p q : Nat) : Int) = min (n : Int) (rm : Int) by rw [EV2.out, if_pos rfl]; omega)
            have hx' : o = 0 ∨ o = c := by
              by_cases a : o = 0
              · exact .inl a
              · by_cases b : o = c
                · exact .inr b
                · exact absurd ⟨by decide, a, b⟩ hx
            clear hx h0 hm0 EV2
            by_cases a : o = 0
            · have q2 : (o != 0) = false := by simp [a]
              have q5 : (o == 0) = true := by simp [a]
              clear a hx'
              go_wp2_with fail
              refine (least8_any _ _ _).mono ?_
              rintro e w' ⟨rfl, rfl⟩
              rw [← R.out]
              go_wp2_with fail
              go_ret
              exact ⟨rfl, HB3.out⟩
            · have q2 : (o != 0) = true := by simpa using a
              have q5 : (o == 0) = false := by simpa using a
              have b : o = c := by rcases hx' with h | h; exact absurd h a; exact h
              have q3 : (o != c) = false := by simp [b]
              have q6 : (o == c) = true := by simp [b]
              clear a b hx'
              go_wp2_with fail
              refine (least8_any _ _ _).mono ?_
              rintro e w' ⟨rfl, rfl⟩
              rw [← R.out]
              go_wp2_with fail
              go_ret
              exact ⟨rfl, HB3.out⟩
          · have R := Lib.hid (show mvN ns ds 2 p q = 1 by rw [EV2.out, if_neg (by decide), if_neg (by decide)])
            have hx' : o = 0 ∨ o = c := by
              by_cases a : o = 0
              · exact .inl a
              · by_cases b : o = c
                · exact .inr b
                · exact absurd ⟨by decide, a, b⟩ hx
            clear hx h0 hm0 EV2
            by_cases a : o = 0
            · have q2 : (o != 0) = false := by simp [a]
              have q5 : (o == 0) = true := by simp [a]
              clear a hx'
              go_wp2_with fail
              go_ret
              exact ⟨ret_int (by rw [R.out]; rfl), HB3.out⟩
            · have q2 : (o != 0) = true := by simpa using a
              have q5 : (o == 0) = false := by simpa using a
              have b : o = c := by rcases hx' with h | h; exact absurd h a; exact h
              have q3 : (o != c) = false := by simp [b]
              have q6 : (o == c) = true := by simp [b]
              clear a b hx'
              go_wp2_with fail
              go_ret
              exact ⟨ret_int (by rw [R.out]; rfl), HB3.out⟩
          · have R := Lib.hid (show mvN ns ds 3 p q = if rm < n then 0 else n by rw [EV2.out, if_neg (by decide), if_pos rfl])
            have hx' : o = 0 ∨ o = c := by
              by_cases a : o = 0
              · exact .inl a
              · by_cases b : o = c
                · exact .inr b
                · exact absurd ⟨by decide, a, b⟩ hx
            clear hx h0 hm0 EV2
            by_cases g : rm < n
            · have R2 := Lib.hid (show mvN ns ds 3 p q = 0 by rw [R.out, if_pos g])
              have g1 : decide ((rm : Int) < (n : Int)) = true := by simp; omega
              have g2 : decide (rm < n) = true := by simp; omega
              clear g R
              by_cases a : o = 0
              · have q2 : (o != 0) = false := by simp [a]
                have q5 : (o == 0) = true := by simp [a]
                clear a hx'
                go_wp2_with fail
                go_ret
                exact ⟨ret_int (by rw [R2.out]; rfl), HB3.out⟩
              · have q2 : (o != 0) = true := by simpa using a
                have q5 : (o == 0) = false := by simpa using a
                have b : o = c := by rcases hx' with h | h; exact absurd h a; exact h
                have q3 : (o != c) = false := by simp [b]
                have q6 : (o == c) = true := by simp [b]
                clear a b hx'
                go_wp2_with fail
                go_ret
                exact ⟨ret_int (by rw [R2.out]; rfl), HB3.out⟩
            · have R2 := Lib.hid (show mvN ns ds 3 p q = n by rw [R.out, if_neg g])
              have g1 : decide ((rm : Int) < (n : Int)) = false := by simp; omega
              have g2 : decide (rm < n) = false := by simp; omega
              clear g R
              by_cases a : o = 0
              · have q2 : (o != 0) = false := by simp [a]
                have q5 : (o == 0) = true := by simp [a]
                clear a hx'
                go_wp2_with fail
                go_ret
                exact ⟨ret_int (by rw [R2.out]), HB3.out⟩
              · have q2 : (o != 0) = true := by simpa using a
                have q5 : (o == 0) = false := by simpa using a
                have b : o = c := by rcases hx' with h | h; exact absurd h a; exact h
                have q3 : (o != c) = false := by simp [b]
                have q6 : (o == c) = true := by simp [b]
                clear a b hx'
                go_wp2_with fail
                go_ret
                exact ⟨ret_int (by rw [R2.out]), HB3.out⟩
          · have R := Lib.hid (show mvN ns ds 4 p q = 1 by rw [EV2.out, if_neg (by decide), if_neg (by decide)])
            clear hx h0 hm0 EV2
            go_wp2_with fail
            go_ret
            exact ⟨ret_int (by rw [R.out]; rfl), HB3.out⟩
end Go.Proofs.Ytcedpjjfcfeokab.base
