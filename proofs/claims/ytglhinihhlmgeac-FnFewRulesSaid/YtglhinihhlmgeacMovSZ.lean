/-
  How many layers a pour by a rule moves, and moving them, on the model's side, walked.
-/
/-
  Layers moved one by one, on the model's side, walked.
-/
/-
  Pours by a rule, on the model's side, walked.
-/
import Derived.Test.YtglhinihhlmgeacDepIZ
import Derived.Test.YtglhinihhlmgeacPourMZ

section
namespace Go.Proofs.Ytglhinihhlmgeac.base
open Go.ChangeShapes Go.WideShapes Go.ChangeAt Go.RowKit
set_option linter.unusedVariables false
set_option linter.unusedSimpArgs false

theorem ruleV_cases {x : Int} (h : ruleV x = true) : x = 1 ∨ x = 2 ∨ x = 3 ∨ x = 4 := by
  have := of_decide_eq_true h
  omega
theorem least8_any (a b : Int) (w : World) :
    Calls Try.prog 44 #[.int .i64 a, .int .i64 b] w fun e w' => e = .returned (.int .i64 (min a b)) ∧ w = w' := by
  by_cases h : a < b
  · have e : min a b = a := by omega
    rw [e]
    clear e
    go_enter Try.func44, Try.ntmps44
    go_wp2_with fail
    go_ret
    exact ⟨rfl, rfl⟩
  · have e : min a b = b := by omega
    have q : decide (a < b) = false := by simpa using h
    rw [e]
    clear e h
    go_enter Try.func44, Try.ntmps44
    go_wp2_with fail
    go_ret
    exact ⟨rfl, rfl⟩

set_option maxHeartbeats 6400000 in
set_option maxRecDepth 100000 in
theorem l8Moves_any (ns ds : List Int) (x : Int) (p q : Nat) (w : World) (h24 : ns.length = 24) (h6 : ds.length = 6) (hfit : fitA ns ds = true) (hrule : ruleV x = true) (hp : p < 6) (hq : q < 6) :
    Calls Try.prog 49 #[row ns, row ds, .int .i64 x, .int .i64 (p : Nat), .int .i64 (q : Nat)] w fun e w' => e = .returned (.int .i64 (mvN ns ds x p q : Nat)) ∧ Kept w w' := by
  have HB := Lib.hid (((kept_refl w).alloc (.cells (ints ns).toArray 27)).alloc (.cells (ints ds).toArray 28))
  have H := (Has.box w 27 h24 (by omega)).alloc (.cells (ints ds).toArray 28)
  have D := (Has.box (w.alloc (.cells (ints ns).toArray 27)) 28 h6 (by omega)).at (size1 _ _)
  have hv := (fit_of hfit).1
  have sp := tub_len ns p h24 hp
  have sq := tub_len ns q h24 hq
  have vp := vR_tub hv p hp
  have vq := vR_tub hv q hq
  have FP := tubeFacts sp vp
  have FQ := tubeFacts sq vq
  have hpi : (p : Int) < 6 := by omega
  have hqi : (q : Int) < 6 := by omega
  have l2 : (ints (tub ns q)).length = 4 := by rw [ints_len]; exact sq
  have hi2 : (Try.prog.info? 24).map (·.size) = some (ints (tub ns q)).length := by rw [l2]; kernel_rfl
  have RE := room_eq h24 hfit q hq
  have DE := vD_at (fit_of hfit).2.1 q hq
  have hl4 := FQ.lay4
  have hn4 : topN (tub ns p) ≤ 4 := by have := FP.topN; have := FP.lay4; omega
  have hc5 := FP.c5
  have hc0 := FP.c0
  obtain ⟨d, hd⟩ : ∃ d : Int, ds.getD q 0 = d := ⟨_, rfl⟩
  have HD := Lib.hid hd
  rw [hd] at RE DE
  clear hd
  have EM := Lib.hid (show mvN ns ds x p q = if p = q then 0 else mvT x (tub ns p) (tub ns q) (roomD ns ds q) from rfl)
  obtain ⟨rm, hrm⟩ : ∃ rm : Nat, roomD ns ds q = rm := ⟨_, rfl⟩
  rw [hrm] at RE EM
  clear hrm
  rw [row_ints, row_ints]
  go_enter Try.func49, Try.ntmps49
  go_wp2_with (refine load_tub rfl 24 _ rfl _ (p) _ rfl ?_ ?_ ?_ ?_ _ Try.underlying24 rfl ?_ ?_; (· (first | rfl | omega)); rotate_left; (· (repeat (first | (with_reducible assumption) | ((with_reducible refine Has.box _ _ ?_ ?_) <;> (first | assumption | decide)) | (with_reducible refine Has.alloc ?_ _) | ((with_reducible refine Has.putOther ?_ _ _ ?_); rotate_left; omega; skip) | ((with_reducible refine Has.below ?_ ?_); rotate_left; assumption)))); (· omega); (· kernel_rfl))
  refine (l2Top_any (tub ns p) _ sp vp).mono ?_
  rintro e w1 ⟨rfl, b1⟩
  have H1 := H.below b1
  have D1 := D.below b1
  have HB1 := Lib.hid (HB.out.call b1)
  clear H D HB b1
  go_wp2_with (refine load_tub rfl 24 _ rfl _ (q) _ rfl ?_ ?_ ?_ ?_ _ Try.underlying24 rfl ?_ ?_; (· (first | rfl | omega)); rotate_left; (· (repeat (first | (with_reducible assumption) | ((with_reducible refine Has.box _ _ ?_ ?_) <;> (first | assumption | decide)) | (with_reducible refine Has.alloc ?_ _) | ((with_reducible refine Has.putOther ?_ _ _ ?_); rotate_left; omega; skip) | ((with_reducible refine Has.below ?_ ?_); rotate_left; assumption)))); (· omega); (· kernel_rfl))
  refine (l2Top_any (tub ns q) _ sq vq).mono ?_
  rintro e w2 ⟨rfl, b2⟩
  have H2 := (H1.below b2).drew
  have D2 := (D1.below b2).drew
  have HB2 := Lib.hid ((HB1.out.call b2).drewN 1)
  clear H1 D1 HB1 b2
  go_wp2_with fail
  refine wp_region_held_drew (S := fun w' => Has w' w.heap.size ns 24 ∧ Has w' (w.heap.size + 1) ds 6) (by kernel_rfl) ⟨H2, D2⟩ (fun hHeld => ?_)
  (refine wpAnyH_take (i := 0) (v := ?_) rfl (by kernel_rfl) (by kernel_rfl) (by kernel_rfl) (fun _ _ _ h => h) (Or.inl ⟨by rfl, ?_⟩) hHeld ?_; rotate_left; (· (intro w' hSw; go_simp; try with_reducible rfl)); (try simp only [List.getElem_toArray, List.getElem_cons_zero, List.getElem_cons_succ, Act.put, List.setIfInBounds_toArray, List.set_cons_zero, List.set_cons_succ])); (refine wpAnyH_take (i := 1) (v := ?_) rfl (by kernel_rfl) (by kernel_rfl) (by kernel_rfl) (fun _ _ _ h => h) (Or.inl ⟨by rfl, ?_⟩) hHeld ?_; rotate_left; (· (intro w' hSw; go_simp; try with_reducible rfl)); (try simp only [List.getElem_toArray, List.getElem_cons_zero, List.getElem_cons_succ, Act.put, List.setIfInBounds_toArray, List.set_cons_zero, List.set_cons_succ])); (refine wpAnyH_take (i := 3) (v := ?_) rfl (by kernel_rfl) (by kernel_rfl) (by kernel_rfl) (fun _ _ _ h => h) (Or.inl ⟨by rfl, ?_⟩) hHeld ?_; rotate_left; (· (intro w' hSw; go_simp; try with_reducible rfl)); (try simp only [List.getElem_toArray, List.getElem_cons_zero, List.getElem_cons_succ, Act.put, List.setIfInBounds_toArray, List.set_cons_zero, List.set_cons_succ])); (refine wpAnyH_take (i := 4) (v := ?_) rfl (by kernel_rfl) (by kernel_rfl) (by kernel_rfl) (fun _ _ _ h => h) (Or.inl ⟨by rfl, ?_⟩) hHeld ?_; rotate_left; (· (intro w' hSw; go_simp; try with_reducible rfl)); (try simp only [List.getElem_toArray, List.getElem_cons_zero, List.getElem_cons_succ, Act.put, List.setIfInBounds_toArray, List.set_cons_zero, List.set_cons_succ])); (refine wpAnyH_take (i := 5) (v := ?_) rfl (by kernel_rfl) (by kernel_rfl) (by kernel_rfl) (fun _ _ _ h => h) (Or.inl ⟨by rfl, ?_⟩) hHeld ?_; rotate_left; (· (intro w' hSw; go_simp; try with_reducible rfl)); (try simp only [List.getElem_toArray, List.getElem_cons_zero, List.getElem_cons_succ, Act.put, List.setIfInBounds_toArray, List.set_cons_zero, List.set_cons_succ]))
  (refine wpAnyH_take (i := 2) (v := .int .i64 d) rfl (by kernel_rfl) (by kernel_rfl) (by kernel_rfl) (fun _ _ _ h => h) (Or.inl ⟨by rfl, ?_⟩) hHeld ?_; (· (intro w' hSw; have q := hSw.2.cellE hq HD.out; clear hSw; go_simp; try with_reducible rfl)); (try simp only [List.getElem_toArray, List.getElem_cons_zero, List.getElem_cons_succ, Act.put, List.setIfInBounds_toArray, List.set_cons_zero, List.set_cons_succ]))
  (refine wpAnyH_take (i := 6) (v := _) rfl (by kernel_rfl) (by kernel_rfl) (by kernel_rfl) (fun _ _ _ h => h) (yieldsIf_load_mid (by rfl) 24 _ rfl _ _ rfl (ints (tub ns q)) _ (fun w' hSw => hSw.1.holds.sub (q * 4) 4) Try.underlying24 rfl (hi2)) hHeld ?_; (try simp only [List.getElem_toArray, List.getElem_cons_zero, List.getElem_cons_succ, Act.put, List.setIfInBounds_toArray, List.set_cons_zero, List.set_cons_succ]))
  (refine wpAnyH_ready (rs := [7]) (by kernel_rfl) (by simp) ?_; refine AllReadyH.cons (o := _) rfl (fun K hK => ?_) AllReadyH.nil; (simp only [List.getElem_toArray, List.getElem_cons_zero, List.getElem_cons_succ, Region.wanted, if_true]))
  go_simp
  refine (l2Many_any (tub ns q) _ sq vq).mono ?_
  rintro e w3 ⟨rfl, b3⟩
  dsimp only
  (try simp only [List.getElem_toArray, List.getElem_cons_zero, List.getElem_cons_succ, Act.put, List.setIfInBounds_toArray, List.set_cons_zero, List.set_cons_succ])
  refine hK.out _ _ ⟨H2.below b3, D2.below b3⟩ (fun hHeld => ?_)
  clear hK K
  have HB3 := Lib.hid (HB2.out.call b3)
  clear H2 D2 HB2 b3
  (refine wpAnyH_take (i := 8) (v := ?_) rfl (by kernel_rfl) (by kernel_rfl) (by kernel_rfl) (fun _ _ _ h => h) (Or.inl ⟨by rfl, ?_⟩) hHeld ?_; rotate_left; (· (intro w' hSw; go_simp; try with_reducible rfl)); (try simp only [List.getElem_toArray, List.getElem_cons_zero, List.getElem_cons_succ, Act.put, List.setIfInBounds_toArray, List.set_cons_zero, List.set_cons_succ])); (refine wpAnyH_take (i := 9) (v := ?_) rfl (by kernel_rfl) (by kernel_rfl) (by kernel_rfl) (fun _ _ _ h => h) (Or.inl ⟨by rfl, ?_⟩) hHeld ?_; rotate_left; (· (intro w' hSw; go_simp; try with_reducible rfl)); (try simp only [List.getElem_toArray, List.getElem_cons_zero, List.getElem_cons_succ, Act.put, List.setIfInBounds_toArray, List.set_cons_zero, List.set_cons_succ]))
  refine wpAnyH_done (by kernel_rfl) ?_ _
  have hsw : IntKind.i64.wrap (d - ((lay (tub ns q) : Nat) : Int)) = (rm : Int) := by rw [← RE.1]; exact IntWalk.i64_in _ (by omega)
  rw [hsw]
  have hr4 : rm ≤ 4 := by omega
  clear hHeld hi2 l2 hsw RE HD DE hl4
  obtain ⟨n, hn⟩ : ∃ n : Nat, topN (tub ns p) = n := ⟨_, rfl⟩
  obtain ⟨c, hc⟩ : ∃ c : Int, topC (tub ns p) = c := ⟨_, rfl⟩
  obtain ⟨o, ho⟩ : ∃ o : Int, topC (tub ns q) = o := ⟨_, rfl⟩
  have EV := Lib.hid (show mvT x (tub ns p) (tub ns q) rm = if n = 0 ∨ rm = 0 ∨ (x ≠ 4 ∧ o ≠ 0 ∧ o ≠ c) then 0 else if x = 1 then min n rm else if x = 3 then (if rm < n then 0 else n) else 1 by
    unfold mvT; rw [hn, hc, ho])
  rw [hn, hc, ho]
  rw [hn] at hn4
  clear hn hc ho hc5 hc0 FP FQ
  by_cases hpq : p = q
  · have R := Lib.hid (show mvN ns ds x p q = 0 by rw [EM.out, if_pos hpq])
    have e1 : ((p : Int) == (q : Int)) = true := by simp [hpq]
    have e2 : (p == q) = true := by simp [hpq]
    clear hpq
    go_wp2_with fail
    go_ret
    exact ⟨ret_int (by rw [R.out]; rfl), HB3.out⟩
  · have EM2 := Lib.hid (show mvN ns ds x p q = mvT x (tub ns p) (tub ns q) rm by rw [EM.out, if_neg hpq])
    have e1 : ((p : Int) == (q : Int)) = false := by simp; omega
    have e2 : (p == q) = false := by simp; omega
    clear hpq EM
    by_cases h0 : n = 0
    · have R := Lib.hid (show mvN ns ds x p q = 0 by rw [EM2.out, EV.out, if_pos (.inl h0)])
      subst h0
      go_wp2_with fail
      go_ret
      exact ⟨ret_int (by rw [R.out]; rfl), HB3.out⟩
    · have n1 : ((n : Int) == 0) = false := by simp; omega
      have n2 : (n == 0) = false := by simp; omega
      by_cases hm0 : rm = 0
      · have R := Lib.hid (show mvN ns ds x p q = 0 by rw [EM2.out, EV.out, if_pos (.inr (.inl hm0))])
        subst hm0
        clear h0
        go_wp2_with fail
        go_ret
        exact ⟨ret_int (by rw [R.out]; rfl), HB3.out⟩
      · have m1 : ((rm : Int) == 0) = false := by simp; omega
        have m2 : (rm == 0) = false := by simp; omega
        by_cases hx : x ≠ 4 ∧ o ≠ 0 ∧ o ≠ c
        · have R := Lib.hid (show mvN ns ds x p q = 0 by rw [EM2.out, EV.out, if_pos (.inr (.inr hx))])
          obtain ⟨x4, o0, oc⟩ := hx
          have q1 : (x != 4) = true := by simpa using x4
          have q2 : (o != 0) = true := by simpa using o0
          have q3 : (o != c) = true := by simpa using oc
          have q4 : (x == 4) = false := by simpa using x4
          have q5 : (o == 0) = false := by simpa using o0
          have q6 : (o == c) = false := by simpa using oc
          clear x4 o0 oc h0 hm0
          go_wp2_with fail
          go_ret
          exact ⟨ret_int (by rw [R.out]; rfl), HB3.out⟩
        · have EV2 := Lib.hid (show mvN ns ds x p q = if x = 1 then min n rm else if x = 3 then (if rm < n then 0 else n) else 1 by
            rw [EM2.out, EV.out, if_neg]
            rintro (h | h | h)
            · exact h0 h
            · exact hm0 h
            · exact hx h)
          clear EV EM2
          have tail : True := trivial
          rcases ruleV_cases hrule with rfl | rfl | rfl | rfl
          · have R := Lib.hid (show ((mvN ns ds 1 p q : Nat) : Int) = min (n : Int) (rm : Int) by rw [EV2.out, if_pos rfl]; omega)
            have hx' : o = 0 ∨ o = c := by
              by_cases a : o = 0
              · exact .inl a
              · by_cases b : o = c
                · exact .inr b
                · exact absurd ⟨by decide, a, b⟩ hx
            clear hx h0 hm0 EV2
            by_cases a : o = 0
            · have q2 : (o != 0) = false := by simp [a]
              have q5 : (o == 0) = true := by simp [a]
              clear a hx'
              go_wp2_with fail
              refine (least8_any _ _ _).mono ?_
              rintro e w' ⟨rfl, rfl⟩
              rw [← R.out]
              go_wp2_with fail
              go_ret
              exact ⟨rfl, HB3.out⟩
            · have q2 : (o != 0) = true := by simpa using a
              have q5 : (o == 0) = false := by simpa using a
              have b : o = c := by rcases hx' with h | h; exact absurd h a; exact h
              have q3 : (o != c) = false := by simp [b]
              have q6 : (o == c) = true := by simp [b]
              clear a b hx'
              go_wp2_with fail
              refine (least8_any _ _ _).mono ?_
              rintro e w' ⟨rfl, rfl⟩
              rw [← R.out]
              go_wp2_with fail
              go_ret
              exact ⟨rfl, HB3.out⟩
          · have R := Lib.hid (show mvN ns ds 2 p q = 1 by rw [EV2.out, if_neg (by decide), if_neg (by decide)])
            have hx' : o = 0 ∨ o = c := by
              by_cases a : o = 0
              · exact .inl a
              · by_cases b : o = c
                · exact .inr b
                · exact absurd ⟨by decide, a, b⟩ hx
            clear hx h0 hm0 EV2
            by_cases a : o = 0
            · have q2 : (o != 0) = false := by simp [a]
              have q5 : (o == 0) = true := by simp [a]
              clear a hx'
              go_wp2_with fail
              go_ret
              exact ⟨ret_int (by rw [R.out]; rfl), HB3.out⟩
            · have q2 : (o != 0) = true := by simpa using a
              have q5 : (o == 0) = false := by simpa using a
              have b : o = c := by rcases hx' with h | h; exact absurd h a; exact h
              have q3 : (o != c) = false := by simp [b]
              have q6 : (o == c) = true := by simp [b]
              clear a b hx'
              go_wp2_with fail
              go_ret
              exact ⟨ret_int (by rw [R.out]; rfl), HB3.out⟩
          · have R := Lib.hid (show mvN ns ds 3 p q = if rm < n then 0 else n by rw [EV2.out, if_neg (by decide), if_pos rfl])
            have hx' : o = 0 ∨ o = c := by
              by_cases a : o = 0
              · exact .inl a
              · by_cases b : o = c
                · exact .inr b
                · exact absurd ⟨by decide, a, b⟩ hx
            clear hx h0 hm0 EV2
            by_cases g : rm < n
            · have R2 := Lib.hid (show mvN ns ds 3 p q = 0 by rw [R.out, if_pos g])
              have g1 : decide ((rm : Int) < (n : Int)) = true := by simp; omega
              have g2 : decide (rm < n) = true := by simp; omega
              clear g R
              by_cases a : o = 0
              · have q2 : (o != 0) = false := by simp [a]
                have q5 : (o == 0) = true := by simp [a]
                clear a hx'
                go_wp2_with fail
                go_ret
                exact ⟨ret_int (by rw [R2.out]; rfl), HB3.out⟩
              · have q2 : (o != 0) = true := by simpa using a
                have q5 : (o == 0) = false := by simpa using a
                have b : o = c := by rcases hx' with h | h; exact absurd h a; exact h
                have q3 : (o != c) = false := by simp [b]
                have q6 : (o == c) = true := by simp [b]
                clear a b hx'
                go_wp2_with fail
                go_ret
                exact ⟨ret_int (by rw [R2.out]; rfl), HB3.out⟩
            · have R2 := Lib.hid (show mvN ns ds 3 p q = n by rw [R.out, if_neg g])
              have g1 : decide ((rm : Int) < (n : Int)) = false := by simp; omega
              have g2 : decide (rm < n) = false := by simp; omega
              clear g R
              by_cases a : o = 0
              · have q2 : (o != 0) = false := by simp [a]
                have q5 : (o == 0) = true := by simp [a]
                clear a hx'
                go_wp2_with fail
                go_ret
                exact ⟨ret_int (by rw [R2.out]), HB3.out⟩
              · have q2 : (o != 0) = true := by simpa using a
                have q5 : (o == 0) = false := by simpa using a
                have b : o = c := by rcases hx' with h | h; exact absurd h a; exact h
                have q3 : (o != c) = false := by simp [b]
                have q6 : (o == c) = true := by simp [b]
                clear a b hx'
                go_wp2_with fail
                go_ret
                exact ⟨ret_int (by rw [R2.out]), HB3.out⟩
          · have R := Lib.hid (show mvN ns ds 4 p q = 1 by rw [EV2.out, if_neg (by decide), if_neg (by decide)])
            clear hx h0 hm0 EV2
            go_wp2_with fail
            go_ret
            exact ⟨ret_int (by rw [R.out]; rfl), HB3.out⟩
end Go.Proofs.Ytglhinihhlmgeac.base
end

section
namespace Go.Proofs.Ytglhinihhlmgeac.base
open Go.ChangeShapes Go.WideShapes Go.ChangeAt Go.RowKit
set_option linter.unusedVariables false
set_option linter.unusedSimpArgs false

def fromGet (t : List Int) : Bool := (List.range 5).all fun k => (List.range 4).all fun j => !decide (j + k < lay t) || (fromK t k).getD j 0 == t.getD j 0
theorem fromGet_all : allT.all fromGet = true := by decide +kernel
/-- The layer that is taken next has the top's color. -/
theorem from_top {t : List Int} (h4 : t.length = 4) (hv : vT t = true) (k : Nat) (hk : k < topN t) : (fromK t k).getD (lay t - 1 - k) 0 = topC t := by
  have F := tubeFacts h4 hv
  have h1 := F.topN
  have h2 := F.lay4
  have h := forT fromGet fromGet_all h4 hv
  have ha := List.all_eq_true.1 h k (by simp; omega)
  have hb := List.all_eq_true.1 ha (lay t - 1 - k) (by simp; omega)
  rw [decide_eq_true (by omega)] at hb
  simp only [Bool.not_true, Bool.false_or, beq_iff_eq] at hb
  rw [hb]; exact F.run k hk

set_option maxHeartbeats 6400000 in
set_option maxRecDepth 100000 in
theorem l8Move_any (ns : List Int) (p q m : Nat) (w : World) (M : MoveOk ns p q m) (hm : m ≤ topN (tub ns p)) :
    Calls Try.prog 23 #[row ns, .int .i64 (p : Nat), .int .i64 (q : Nat), .int .i64 (m : Nat)] w fun e w' => e = .returned (.agg (ints (moveT ns p q m)).toArray) ∧ Kept w w' := by
  have h24 := M.len
  have hp := M.hp
  have hq := M.hq
  have hne := M.ne
  have hv := M.v
  have HB := Lib.hid (((kept_refl w).alloc (.cells (ints ns).toArray 27)).alloc (.cells #[.int .i64 0, .int .i64 0, .int .i64 0, .int .i64 0, .int .i64 0, .int .i64 0, .int .i64 0, .int .i64 0, .int .i64 0, .int .i64 0, .int .i64 0, .int .i64 0, .int .i64 0, .int .i64 0, .int .i64 0, .int .i64 0, .int .i64 0, .int .i64 0, .int .i64 0, .int .i64 0, .int .i64 0, .int .i64 0, .int .i64 0, .int .i64 0] 27))
  have H := (Has.box w 27 h24 (by omega)).alloc (.cells #[.int .i64 0, .int .i64 0, .int .i64 0, .int .i64 0, .int .i64 0, .int .i64 0, .int .i64 0, .int .i64 0, .int .i64 0, .int .i64 0, .int .i64 0, .int .i64 0, .int .i64 0, .int .i64 0, .int .i64 0, .int .i64 0, .int .i64 0, .int .i64 0, .int .i64 0, .int .i64 0, .int .i64 0, .int .i64 0, .int .i64 0, .int .i64 0] 27)
  have Z := (Has.zero24 (w.alloc (.cells (ints ns).toArray 27)) 27).at (size1 _ _)
  have sp := tub_len ns p h24 hp
  have sq := tub_len ns q h24 hq
  have vp := vR_tub hv p hp
  have vq := vR_tub hv q hq
  have hmq := M.hq4
  have hml := M.hm
  have FP := Lib.hid (fun k hk => fromK_facts sp vp k hk)
  have FQ := Lib.hid (fun k hk => toK_facts sq vq (topC (tub ns p)) M.color k hk)
  have FT := Lib.hid (fun k hk => from_top sp vp k hk)
  have hTP := Lib.hid (tubeFacts sp vp)
  have hTQ := Lib.hid (tubeFacts sq vq)
  have hpi : (p : Int) < 6 := by omega
  have hqi : (q : Int) < 6 := by omega
  have hm4 : m ≤ 4 := by have := hTP.out.lay4; omega
  have hs := two_self h24 hp hq hne
  have H4 : Has ((w.alloc (.cells (ints ns).toArray 27)).alloc (.cells #[.int .i64 0, .int .i64 0, .int .i64 0, .int .i64 0, .int .i64 0, .int .i64 0, .int .i64 0, .int .i64 0, .int .i64 0, .int .i64 0, .int .i64 0, .int .i64 0, .int .i64 0, .int .i64 0, .int .i64 0, .int .i64 0, .int .i64 0, .int .i64 0, .int .i64 0, .int .i64 0, .int .i64 0, .int .i64 0, .int .i64 0, .int .i64 0] 27)) w.heap.size (two ns p q (fromK (tub ns p) 0) (toK (tub ns q) (topC (tub ns p)) 0)) 24 := by
    show Has _ w.heap.size (two ns p q (tub ns p) (tub ns q)) 24
    rw [hs]; exact H
  have HC := Lib.hid (And.intro hml (And.intro hmq hm))
  have HL := Lib.hid h24
  have HN := Lib.hid hne
  have HE := Lib.hid (show moveT ns p q m = two ns p q (fromK (tub ns p) m) (toK (tub ns q) (topC (tub ns p)) m) from rfl)
  clear hs H M hne h24 hml hmq hm hv
  rw [row_ints]
  go_enter Try.func23, Try.ntmps23
  go_wp2_with fail
  generalize ((w.alloc (.cells (ints ns).toArray 27)).alloc (.cells #[.int .i64 0, .int .i64 0, .int .i64 0, .int .i64 0, .int .i64 0, .int .i64 0, .int .i64 0, .int .i64 0, .int .i64 0, .int .i64 0, .int .i64 0, .int .i64 0, .int .i64 0, .int .i64 0, .int .i64 0, .int .i64 0, .int .i64 0, .int .i64 0, .int .i64 0, .int .i64 0, .int .i64 0, .int .i64 0, .int .i64 0, .int .i64 0] 27)) = W at *
  go_loopw [3] (fun z wr => ∃ k : Nat, k ≤ m ∧ z = .int .i64 ((m - k : Nat) : Int) ∧ Has wr w.heap.size (two ns p q (fromK (tub ns p) k) (toK (tub ns q) (topC (tub ns p)) k)) 24 ∧ Has wr (w.heap.size + 1) z24 24 ∧ Hid (Kept w wr)) (fun z _ => (intOf z).toNat)
  case atStart => exact ⟨0, by omega, rfl, H4, Z, HB⟩
  case round =>
    obtain ⟨k, hk, rfl, G1, G2, GB⟩ := hrel
    clear H4 Z HB
    by_cases h : k < m
    · obtain ⟨r, hr⟩ : ∃ r : Nat, m - k = r + 1 := ⟨m - k - 1, by omega⟩
      rw [hr]
      have hri : (0 : Int) < ((r + 1 : Nat) : Int) := by omega
      have hr4 : r < 4 := by omega
      have fp := FP.out k (by have := HC.out; omega)
      have fq := FQ.out k (by have := HC.out; omega)
      have ft := FT.out k (by have := HC.out; omega)
      have hlp := hTP.out.lay4
      have hkl : k < lay (tub ns p) := by have := HC.out; omega
      have hkq : k + lay (tub ns q) < 4 := by have := HC.out; omega
      have tP := two_p HL.out hp hq fp.2.2 fq.2.2 HN.out
      have tQ := two_q HL.out hp hq fp.2.2 fq.2.2
      obtain ⟨z1, hz1⟩ : ∃ z1 : Nat, lay (tub ns p) - 1 - k = z1 := ⟨_, rfl⟩
      have hz4 : z1 < 4 := by omega
      have hzi : (z1 : Int) < 4 := by omega
      have lz : lay (fromK (tub ns p) k) = z1 + 1 := by rw [fp.1]; omega
      have e3 : (fromK (tub ns p) k).set z1 0 = fromK (tub ns p) (k + 1) := by
        show _ = takeT (fromK (tub ns p) k)
        unfold takeT; rw [lz]; rfl
      have fp3 := (FP.out (k + 1) (by omega)).2.2
      rw [hz1] at ft
      have cv : (two ns p q (fromK (tub ns p) k) (toK (tub ns q) (topC (tub ns p)) k)).getD (p * 4 + z1) 0 = topC (tub ns p) := by
        rw [← tub_getD _ p z1 hz4, tP, ft]
      have eP := two_set_p HL.out hp hq fp.2.2 fq.2.2 HN.out z1 hz4 0
      rw [e3] at eP
      have tQ3 := two_q HL.out hp hq fp3 fq.2.2
      have lq : lay (toK (tub ns q) (topC (tub ns p)) k) = lay (tub ns q) + k := fq.1
      obtain ⟨z2, hz2⟩ : ∃ z2 : Nat, lay (tub ns q) + k = z2 := ⟨_, rfl⟩
      have hz24 : z2 < 4 := by omega
      have hz2i : (z2 : Int) < 4 := by omega
      have fq3 := (FQ.out (k + 1) (by have := HC.out; omega)).2.2
      have e4 : (toK (tub ns q) (topC (tub ns p)) k).set z2 (topC (tub ns p)) = toK (tub ns q) (topC (tub ns p)) (k + 1) := by
        show _ = putT (toK (tub ns q) (topC (tub ns p)) k) (topC (tub ns p))
        unfold putT; rw [lq, hz2]
      have eS := two_set_q HL.out hp hq fp3 fq.2.2 HN.out z2 hz24 (topC (tub ns p))
      rw [e4] at eS
      have l4 := two_len HL.out hp hq fp3 fq.2.2
      have l3 := two_len HL.out hp hq fp.2.2 fq.2.2
      have EF := Lib.hid (show two ns p q (fromK (tub ns p) (k + 1)) (toK (tub ns q) (topC (tub ns p)) (k + 1)) = two ns p q (fromK (tub ns p) (k + 1)) (toK (tub ns q) (topC (tub ns p)) (k + 1)) from rfl)
      rw [hz2] at lq
      have vA := fp.2.1
      have sA := fp.2.2
      have vB := fq.2.1
      have sB := fq.2.2
      clear fp fq ft e3 e4 fp3 fq3 hkl hkq hz1 hz2 hlp EF
      generalize two ns p q (fromK (tub ns p) k) (toK (tub ns q) (topC (tub ns p)) k) = R0 at *
      generalize two ns p q (fromK (tub ns p) (k + 1)) (toK (tub ns q) (topC (tub ns p)) k) = R1 at *
      generalize hR2 : two ns p q (fromK (tub ns p) (k + 1)) (toK (tub ns q) (topC (tub ns p)) (k + 1)) = R2 at *
      have HR2 := Lib.hid hR2
      clear hR2
      generalize fromK (tub ns p) k = A at *
      generalize toK (tub ns q) (topC (tub ns p)) k = B at *
      have lB : (ints (tub R1 q)).length = 4 := by rw [ints_len, tQ3]; exact sB
      have hiB : (Try.prog.info? 24).map (·.size) = some (ints (tub R1 q)).length := by rw [lB]; kernel_rfl
      generalize topC (tub ns p) = c at *
      have EA := Lib.hid tP
      have EB := Lib.hid tQ3
      clear tP tQ tQ3
      go_wp2_with (refine load_tub rfl 24 _ rfl _ (p) _ rfl ?_ ?_ ?_ ?_ _ Try.underlying24 rfl ?_ ?_; (· (first | rfl | omega)); rotate_left; (· (repeat (first | (with_reducible assumption) | ((with_reducible refine Has.box _ _ ?_ ?_) <;> (first | assumption | decide)) | (with_reducible refine Has.alloc ?_ _) | ((with_reducible refine Has.putOther ?_ _ _ ?_); rotate_left; omega; skip) | ((with_reducible refine Has.below ?_ ?_); rotate_left; assumption)))); (· omega); (· kernel_rfl))
      rw [EA.out]
      refine (l2Many_any A _ sA vA).mono ?_
      rintro e w1 ⟨rfl, b1⟩
      rw [lz]
      replace G1 := G1.below b1
      replace G2 := G2.below b1
      replace GB := Lib.hid (GB.out.call b1)
      clear b1
      have c1 := G1.cellE (k := p * 4 + z1) (by omega) cv
      have f1 := G1.free (p * 4 + z1) (by omega)
      have G3 := G1.set (p * 4 + z1) 0 (by omega)
      rw [eP] at G3
      have Z3 := G2.setOther (b' := w.heap.size) (p * 4 + z1) (.int .i64 0) (by omega)
      have K3 := Lib.hid (GB.out.set (b := w.heap.size) (Nat.le_refl _) (p * 4 + z1) (.int .i64 0))
      clear G1 G2 GB cv eP lz
      go_wp2_with fail
      generalize w1.setCell ⟨w.heap.size, p * 4 + z1, none⟩ (.int .i64 0) = W1 at *
      clear c1 f1
      refine wp_region_held_drew (S := fun _ => True) (by kernel_rfl) trivial (fun hHeld => ?_)
      replace G3 := G3.drew
      replace Z3 := Z3.drew
      replace K3 := Lib.hid (K3.out.drewN 1)
      (refine wpAnyH_take (i := 0) (v := ?_) rfl (by kernel_rfl) (by kernel_rfl) (by kernel_rfl) (fun _ _ _ h => h) (Or.inl ⟨by rfl, ?_⟩) hHeld ?_; rotate_left; (· (intro w' hSw; go_simp; try with_reducible rfl)); (try simp only [List.getElem_toArray, List.getElem_cons_zero, List.getElem_cons_succ, Act.put, List.setIfInBounds_toArray, List.set_cons_zero, List.set_cons_succ])); (refine wpAnyH_take (i := 1) (v := ?_) rfl (by kernel_rfl) (by kernel_rfl) (by kernel_rfl) (fun _ _ _ h => h) (Or.inl ⟨by rfl, ?_⟩) hHeld ?_; rotate_left; (· (intro w' hSw; go_simp; try with_reducible rfl)); (try simp only [List.getElem_toArray, List.getElem_cons_zero, List.getElem_cons_succ, Act.put, List.setIfInBounds_toArray, List.set_cons_zero, List.set_cons_succ])); (refine wpAnyH_take (i := 2) (v := ?_) rfl (by kernel_rfl) (by kernel_rfl) (by kernel_rfl) (fun _ _ _ h => h) (Or.inl ⟨by rfl, ?_⟩) hHeld ?_; rotate_left; (· (intro w' hSw; go_simp; try with_reducible rfl)); (try simp only [List.getElem_toArray, List.getElem_cons_zero, List.getElem_cons_succ, Act.put, List.setIfInBounds_toArray, List.set_cons_zero, List.set_cons_succ])); (refine wpAnyH_take (i := 3) (v := ?_) rfl (by kernel_rfl) (by kernel_rfl) (by kernel_rfl) (fun _ _ _ h => h) (Or.inl ⟨by rfl, ?_⟩) hHeld ?_; rotate_left; (· (intro w' hSw; go_simp; try with_reducible rfl)); (try simp only [List.getElem_toArray, List.getElem_cons_zero, List.getElem_cons_succ, Act.put, List.setIfInBounds_toArray, List.set_cons_zero, List.set_cons_succ])); (refine wpAnyH_take (i := 6) (v := ?_) rfl (by kernel_rfl) (by kernel_rfl) (by kernel_rfl) (fun _ _ _ h => h) (Or.inl ⟨by rfl, ?_⟩) hHeld ?_; rotate_left; (· (intro w' hSw; go_simp; try with_reducible rfl)); (try simp only [List.getElem_toArray, List.getElem_cons_zero, List.getElem_cons_succ, Act.put, List.setIfInBounds_toArray, List.set_cons_zero, List.set_cons_succ])); (refine wpAnyH_take (i := 7) (v := ?_) rfl (by kernel_rfl) (by kernel_rfl) (by kernel_rfl) (fun _ _ _ h => h) (Or.inl ⟨by rfl, ?_⟩) hHeld ?_; rotate_left; (· (intro w' hSw; go_simp; try with_reducible rfl)); (try simp only [List.getElem_toArray, List.getElem_cons_zero, List.getElem_cons_succ, Act.put, List.setIfInBounds_toArray, List.set_cons_zero, List.set_cons_succ])); (refine wpAnyH_take (i := 8) (v := ?_) rfl (by kernel_rfl) (by kernel_rfl) (by kernel_rfl) (fun _ _ _ h => h) (Or.inl ⟨by rfl, ?_⟩) hHeld ?_; rotate_left; (· (intro w' hSw; go_simp; try with_reducible rfl)); (try simp only [List.getElem_toArray, List.getElem_cons_zero, List.getElem_cons_succ, Act.put, List.setIfInBounds_toArray, List.set_cons_zero, List.set_cons_succ]))
      (refine wpAnyH_ready (rs := [4]) (by kernel_rfl) (by simp) ?_; refine AllReadyH.cons (o := _) rfl (fun K hK => ?_) AllReadyH.nil; (simp only [List.getElem_toArray, List.getElem_cons_zero, List.getElem_cons_succ, Region.wanted, if_true]); refine wp_load_mid _ _ rfl _ _ rfl (ints (tub R1 q)) _ (G3.holds.sub (q * 4) 4) Try.underlying24 rfl (hiB) ?_; (try simp only [List.getElem_toArray, List.getElem_cons_zero, List.getElem_cons_succ, Act.put, List.setIfInBounds_toArray, List.set_cons_zero, List.set_cons_succ]); refine hK.out _ _ trivial (fun hHeld => ?_); clear hK K)
      (refine wpAnyH_ready (rs := [5]) (by kernel_rfl) (by simp) ?_; refine AllReadyH.cons (o := _) rfl (fun K hK => ?_) AllReadyH.nil; (simp only [List.getElem_toArray, List.getElem_cons_zero, List.getElem_cons_succ, Region.wanted, if_true]))
      go_simp
      rw [EB.out]
      refine (l2Many_any B _ sB vB).mono ?_
      rintro e w2 ⟨rfl, b2⟩
      rw [lq]
      replace G3 := G3.below b2
      replace Z3 := Z3.below b2
      replace K3 := Lib.hid (K3.out.call b2)
      clear b2
      dsimp only
      (try simp only [List.getElem_toArray, List.getElem_cons_zero, List.getElem_cons_succ, Act.put, List.setIfInBounds_toArray, List.set_cons_zero, List.set_cons_succ])
      refine hK.out _ _ trivial (fun hHeld => ?_)
      clear hK K
      (refine wpAnyH_take (i := 9) (v := ?_) rfl (by kernel_rfl) (by kernel_rfl) (by kernel_rfl) (fun _ _ _ h => h) (Or.inl ⟨by rfl, ?_⟩) hHeld ?_; rotate_left; (· (intro w' hSw; go_simp; try with_reducible rfl)); (try simp only [List.getElem_toArray, List.getElem_cons_zero, List.getElem_cons_succ, Act.put, List.setIfInBounds_toArray, List.set_cons_zero, List.set_cons_succ]))
      have c2 := G3.cell (q * 4 + z2) (by omega)
      have f2 := G3.free (q * 4 + z2) (by omega)
      have G4 := G3.set (q * 4 + z2) c (by omega)
      rw [eS] at G4
      have Z4 := Z3.setOther (b' := w.heap.size) (q * 4 + z2) (.int .i64 c) (by omega)
      have K4 := Lib.hid (K3.out.set (b := w.heap.size) (Nat.le_refl _) (q * 4 + z2) (.int .i64 c))
      generalize R1.getD (q * 4 + z2) 0 = x2 at *
      (refine wpAnyH_ready (rs := [10]) (by kernel_rfl) (by simp) ?_; refine AllReadyH.cons (o := _) rfl (fun K hK => ?_) AllReadyH.nil; (simp only [List.getElem_toArray, List.getElem_cons_zero, List.getElem_cons_succ, Region.wanted, if_true]))
      go_simp
      refine hK.out _ _ trivial (fun hHeld => ?_)
      clear hK K
      refine wpAnyH_done (by kernel_rfl) ?_ _
      have G5 := Lib.hid G4
      have Z5 := Lib.hid Z4
      clear G3 Z3 K3 G4 Z4 c2 f2 hHeld hiB lB
      go_wp2_with fail
      go_roundw
      case rel => exact ⟨k + 1, by omega, by congr 1; omega, by rw [HR2.out]; exact G5.out, Z5.out, K4⟩
      case measure => simp [intOf]
    · obtain rfl : k = m := by omega
      have hl := G1.len
      have S1 := Lib.hid (G2.putAll _ hl)
      have S2 := Lib.hid (GB.out.puts (b := w.heap.size + 1) (by omega) 0 (ints (two ns p q (fromK (tub ns p) k) (toK (tub ns q) (topC (tub ns p)) k))))
      rw [Nat.sub_self]
      go_wp2_with (first | (refine load_has rfl 27 _ rfl _ rfl ?_ 24 ?_ _ Try.underlying27 rfl ?_ ?_; rotate_left; (· (repeat (first | (with_reducible assumption) | ((with_reducible refine Has.box _ _ ?_ ?_) <;> (first | assumption | decide)) | (with_reducible refine Has.alloc ?_ _) | ((with_reducible refine Has.putOther ?_ _ _ ?_); rotate_left; omega; skip) | ((with_reducible refine Has.below ?_ ?_); rotate_left; assumption)))); (· kernel_rfl)) | (refine store_at rfl 27 _ _ rfl _ _ rfl rfl ?_ 24 ?_ ?_ ?_ ?_; rotate_left; (· (repeat (first | (with_reducible assumption) | ((with_reducible refine Has.box _ _ ?_ ?_) <;> (first | assumption | decide)) | (with_reducible refine Has.alloc ?_ _) | ((with_reducible refine Has.putOther ?_ _ _ ?_); rotate_left; omega; skip) | ((with_reducible refine Has.below ?_ ?_); rotate_left; assumption)))); (· (first | assumption | rfl)); (· kernel_rfl)))
      exact bodyPost_ret (res_has rfl _ _ (w.heap.size + 1) _ 24 _ rfl S1.out Try.underlying27 rfl (by kernel_rfl)) rfl ⟨by rw [HE.out], S2.out⟩
end Go.Proofs.Ytglhinihhlmgeac.base
end

section
namespace Go.Proofs.Ytglhinihhlmgeac.base
open Go.ChangeShapes Go.WideShapes Go.ChangeAt Go.RowKit
set_option linter.unusedVariables false
set_option linter.unusedSimpArgs false

theorem mvN_le (ns ds : List Int) (x : Int) (p q : Nat) : mvN ns ds x p q ≤ topN (tub ns p) := by
  unfold mvN
  split
  · omega
  · exact (mvT_le x _ _ _).1
theorem pb_not {ns ds : List Int} {x i j : Int} (h : ¬ (fitA ns ds = true ∧ ruleV x = true ∧ (0 ≤ i ∧ i < 6) ∧ (0 ≤ j ∧ j < 6))) : pbOk ns ds x i j = false := by
  cases hb : pbOk ns ds x i j with
  | false => rfl
  | true =>
    obtain ⟨h1, h2, p, q, rfl, rfl, hp, hq, _⟩ := pbOk_of hb
    exact absurd ⟨h1, h2, by omega, by omega⟩ h
theorem pb_nat {ns ds : List Int} {x : Int} {p q : Nat} (hf : fitA ns ds = true) (hr : ruleV x = true) (hp : p < 6) (hq : q < 6) : pbOk ns ds x (p : Int) (q : Int) = decide (0 < mvN ns ds x p q) := by
  unfold pbOk; rw [hf, hr, decide_eq_true (by omega), decide_eq_true (by omega)]; simp

end Go.Proofs.Ytglhinihhlmgeac.base
end
