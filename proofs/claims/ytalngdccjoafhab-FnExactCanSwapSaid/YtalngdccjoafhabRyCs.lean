/-
  Two pours exchanged, walked on both sides.
-/
import Derived.Test.YtalngdccjoafhabRyEZ
import Derived.Test.YtalngdccjoafhabSwapZ
namespace Go.Proofs.Ytalngdccjoafhab.base
open Go.ChangeShapes Go.WideShapes Go.ChangeAt Go.RowKit
set_option linter.unusedVariables false
set_option linter.unusedSimpArgs false

section
variable {P : Program} {ops : Array Oper} {rest : List Oper} {op : Oper} {a : Act} {w : World} {Q : Exit → Act → World → Prop}
theorem eqlGo (hw : Region.wanted op (yielded ops a.tmps) = true) (T T2 : TypeId) (x y : Operand) (ho : op.op = .binOp .eql T x y T2) (xs ys : List Int) (hx : a.eval x = .agg (ints xs).toArray) (hy : a.eval y = .agg (ints ys).toArray)
    (hm : P.eqGuardType P.depth T = false) (hq : ∀ w, (Op.equalIn 10000 T (.agg (ints xs).toArray) (.agg (ints ys).toArray)).run P w = .ok (decide (xs = ys)) w)
    (h : wpList P ops Q rest (a.put op.dst (.bool (decide (xs = ys)))) w) : wpList P ops Q (op :: rest) a w :=
  wpList_wanted hw fun _ hK => by
    unfold Oper.wp execOp
    simp only [ho, hx, hy, Sem.run_bind, run_eqGuard_agg w .eql T x y _ _ hm, run_eql_struct, hq, Result.andThen_ok, Sem.run_pure]
    exact hK _ _ h
end
def isEqlY (T : TypeId) : Op → Bool
  | .binOp .eql t _ _ _ => t == T
  | _ => false
theorem range_two2 {w : World} {g o : Nat} {x y : Int} (h0 : w.cell? ⟨g, o, Option.none⟩ = some (.int .i64 x)) (h1 : w.cell? ⟨g, o + 1, Option.none⟩ = some (.int .i64 y)) : w.rangeAt g o (ints [x, y]) := range_two h0 h1
theorem cs_no {ns fs : List Int} {n : Nat} (k : Int) (h : rpOk ns fs n = false) : csOk ns fs n k = false := by unfold csOk; rw [h]; rfl
theorem cs_out {ns fs : List Int} {n : Nat} {k : Int} (h : ¬ (0 ≤ k ∧ k < (n : Int) - 1)) : csOk ns fs n k = false := by unfold csOk; rw [decide_eq_false h, Bool.and_false]
theorem cs_yes {ns fs : List Int} {n j : Nat} (h : rpOk ns fs n = true) (hj : j + 1 < n) : csOk ns fs n (j : Int) = true := by unfold csOk; rw [h, decide_eq_true (by omega)]; rfl
theorem csA_no {ns fs : List Int} {n : Nat} {k : Int} (h : csOk ns fs n k = false) : csA ns fs n k = false := by unfold csA; rw [h]; rfl
theorem csA_yes {ns fs : List Int} {n j : Nat} (h : csOk ns fs n (j : Int) = true) : csA ns fs n (j : Int) = (rpOk ns (swF fs j) n && decide (doR ns (swF fs j) n = doR ns fs n)) := by unfold csA; rw [h, Int.toNat_natCast]; rfl
theorem swF_eq (fs : List Int) (k : Nat) : (((fs.set (k * 2) (fs.getD ((k + 1) * 2) 0)).set (k * 2 + 1) (fs.getD ((k + 1) * 2 + 1) 0)).set ((k + 1) * 2) (fs.getD (k * 2) 0)).set ((k + 1) * 2 + 1) (fs.getD (k * 2 + 1) 0) = swF fs k := by
  have e : (k + 1) * 2 = k * 2 + 2 := by omega
  rw [e]; rfl
theorem grownBy_selfY (w : World) (r : Option Nat) : w.grownBy w r := ⟨rfl, rfl, rfl, Nat.le_refl _, fun _ _ _ => rfl⟩
theorem grownPutsY2 (w : World) (c o : Nat) (vs : List Value) : w.grownBy (w.setCells c o vs) (some c) :=
  have h := below_setCells (B := 0) c (Nat.zero_le _) vs o w w (Below.refl _ _)
  ⟨h.os, h.tape, h.output, Nat.le_of_eq (size_setCells c vs o w).symm, fun i hi hn => World.heap_setCells_other w c o vs hi (fun e => hn (by rw [e]))⟩
theorem Has.grownCs {w w' : World} {c : Nat} {ns : List Int} {m : Nat} (H : Has w c ns m) {r : Option Nat} (hg : w.grownBy w' r) (hr : some c ≠ r) : Has w' c ns m := by
  have hb := hg.block c H.lt hr
  refine ⟨⟨fun j v hv => (World.cell?_of_block (a := ⟨c, 0 + j, Option.none⟩) hb).trans (H.holds.range j v hv), fun j hj => ?_⟩, H.len, H.pos⟩
  have := H.holds.there j hj
  rw [World.cell?_of_block (w' := w') (w := w) (a := ⟨c, 0 + j, Option.none⟩) hb, World.frozen?_of_block (w' := w') (w := w) (a := ⟨c, 0 + j, Option.none⟩) hb]
  exact this
theorem gbDrewY (w : World) (r : Option Nat) : w.grownBy (w.drewN 1) r := ⟨rfl, rfl, rfl, Nat.le_refl _, fun _ _ _ => rfl⟩
theorem grownBy_goY {a b c : World} {g : Nat} (h : a.grownBy b (some g)) (k : b.grownBy c (some g)) : a.grownBy c (some g) :=
  ⟨k.os.trans h.os, k.tape.trans h.tape, k.output.trans h.output, Nat.le_trans h.size k.size, fun i hi hn => (k.block i (Nat.lt_of_lt_of_le hi h.size) hn).trans (h.block i hi hn)⟩

set_option maxHeartbeats 3200000 in
set_option maxRecDepth 100000 in
theorem implCanSwap (ns fs : List Int) (v : Value) (n b : Nat) (k : Int) (w : World) (h24 : ns.length = 24) (hn : n ≤ 1048576) (h : Rw w b v n fs) :
    Calls Try.prog 19 #[rpV ns v, .int .i64 k] w fun e w' => e = .returned (.tuple #[.bool (csA ns fs n k), .bool (csOk ns fs n k)]) ∧ Kept w w' := by
  have HM : Hid (Try.prog.eqGuardType Try.prog.depth 30 = false) := Lib.hid (by kernel_rfl)
  obtain ⟨a, cap, rfl⟩ := h.shape
  have FL := Lib.hid h.flat
  have RY := Ry.box (v := .slice a n cap) w 32 h24
  have HB := Lib.hid ((kept_refl w).alloc (.cells (rpC ns (.slice a n cap)).toArray 32))
  have HR := Lib.hid (h.alloc (.cells (rpC ns (.slice a n cap)).toArray 32))
  have hR := rrA_len h24 fs n (n : Nat)
  have H24 := Lib.hid h24
  have AP := Lib.hid (fun hn0 k hk => (h.ownlt hn0 k hk).2)
  clear h
  unfold rpV
  go_enter Try.func19, Try.ntmps19
  go_wp2_with (refine guardY (isLdY 32) ?_ ?_; (· rfl); refine load_ry rfl 32 _ rfl w.heap.size rfl _ _ _ RY _ Try.underlying32 rfl ?_ ?_; (· kernel_rfl))
  refine (last_any ns fs (.slice a n cap) n b _ h24 hn HR.out).mono ?_
  rintro e w1 ⟨rfl, b1⟩
  rw [row_ints]
  have ER : Hid (rpOk ns fs n = true → rrA ns fs n (n : Nat) = doR ns fs n) := Lib.hid (fun h => (rr_yes h (Nat.le_refl n)).2)
  have hs1 : w.heap.size < w1.heap.size := by have := b1.size; rw [size1] at this; omega
  have A1 := Has.box w1 30 hR (by omega)
  replace RY := (RY.below b1).alloc (.cells (ints (rrA ns fs n (n : Nat))).toArray 30)
  replace HB := Lib.hid ((HB.out.call b1).alloc (.cells (ints (rrA ns fs n (n : Nat))).toArray 30))
  replace HR := Lib.hid ((HR.out.below b1).alloc (.cells (ints (rrA ns fs n (n : Nat))).toArray 30))
  clear b1
  cases hok : rpOk ns fs n with
  | false =>
    have EO := Lib.hid (cs_no k hok)
    have EA := Lib.hid (csA_no (cs_no k hok))
    clear hok ER
    go_wp2_with (refine guardY (isStY 30) ?_ ?_; (· rfl); (refine store_new rfl 30 _ _ rfl _ _ _ rfl _ rfl _ rfl rfl ?_ ?_ ?_; (· (first | assumption | rfl)); (· kernel_rfl)))
    go_ret2
    exact ⟨by rw [EO.out, EA.out]; rfl, HB.out⟩
  | true =>
    have n60 := rp_le hok
    have wr1 : IntKind.i64.wrap ((n : Int) - 1) = (n : Int) - 1 := IntWalk.i64_in _ (by omega)
    by_cases hk : 0 ≤ k ∧ k < (n : Int) - 1
    · obtain ⟨j, rfl⟩ : ∃ j : Nat, k = (j : Int) := ⟨k.toNat, by omega⟩
      have hj : j + 1 < n := by omega
      have EO := Lib.hid (cs_yes hok hj)
      have EA := Lib.hid (csA_yes EO.out)
      have e1 := ER.out hok
      have hd := HR.out
      obtain ⟨g, cap2, hv', _, hgl⟩ := hd.form (by omega)
      injection hv' with ha _ hcap
      subst ha
      subst hcap
      have hgs : g < w.heap.size := by
        have := AP.out (by omega) g rfl
        exact this
      clear hd hgl
      have c24 := RY.pours
      have k0 : decide ((j : Int) < 0) = false := by simp
      have k1 : decide ((n : Int) - 1 ≤ (j : Int)) = false := by simp; omega
      have k2 : decide ((n : Int) ≤ (j : Int) + 1) = false := by simp; omega
      rw [e1] at hR A1 RY HB HR ⊢
      obtain ⟨R, hRR⟩ : ∃ R, doR ns fs n = R := ⟨_, rfl⟩
      rw [hRR] at hR A1 RY HB HR EA ⊢
      have LST := Lib.hid hRR
      rw [e1, hRR] at c24
      clear hRR e1 ER hok
      go_upto_region 4 with (refine guardY (isStY 30) ?_ ?_; (· rfl); (refine store_new rfl 30 _ _ rfl _ _ _ rfl _ rfl _ rfl rfl ?_ ?_ ?_; (· (first | assumption | rfl)); (· kernel_rfl)))
      have hs2 := size1 w1 (.cells (ints R).toArray 30)
      obtain ⟨B6, hB6⟩ : ∃ x, w1.heap.size = x := ⟨_, rfl⟩
      rw [hB6] at A1 hs1 hs2 ⊢
      generalize w1.alloc (.cells (ints R).toArray 30) = W1 at *
      clear hB6
      go_wp2_with (refine guardY (isLdY 32) ?_ ?_; (· rfl); refine load_ry rfl 32 _ rfl w.heap.size rfl _ _ _ RY _ Try.underlying32 rfl ?_ ?_; (· kernel_rfl))
      refine (copied_any ns fs _ n b _ H24.out hn HR.out).mono ?_
      rintro e w3 ⟨vg, rfl, q3, b3⟩
      have hvg := World.ownsRow.lt q3 vg rfl
      replace RY := RY.below b3
      replace A1 := A1.below b3
      replace HB := Lib.hid (HB.out.call b3)
      replace HR := Lib.hid (HR.out.below b3)
      have Q3 := Lib.hid q3.rw
      clear q3 b3
      have C8 := Ry.box (v := .slice (some ⟨vg, 0, none⟩) n n) w3 32 H24.out
      replace RY := RY.alloc (.cells (rpC ns (.slice (some ⟨vg, 0, none⟩) n n)).toArray 32)
      replace A1 := A1.alloc (.cells (rpC ns (.slice (some ⟨vg, 0, none⟩) n n)).toArray 32)
      replace HB := Lib.hid (HB.out.alloc (.cells (rpC ns (.slice (some ⟨vg, 0, none⟩) n n)).toArray 32))
      replace HR := Lib.hid (HR.out.alloc (.cells (rpC ns (.slice (some ⟨vg, 0, none⟩) n n)).toArray 32))
      replace Q3 := Lib.hid (Q3.out.alloc (.cells (rpC ns (.slice (some ⟨vg, 0, none⟩) n n)).toArray 32))
      go_upto_region 5 with (refine guardY (isStY 32) ?_ ?_; (· rfl); refine store_newry rfl 32 _ _ rfl w3 _ _ rfl _ rfl ns (.slice (some ⟨vg, 0, none⟩) n n) rfl rfl rfl H24.out rfl ?_ ?_; (· kernel_rfl))
      obtain ⟨B8, hB8⟩ : ∃ x, w3.heap.size = x := ⟨_, rfl⟩
      rw [hB8] at C8 hvg ⊢
      generalize w3.alloc (.cells (rpC ns (.slice (some ⟨vg, 0, none⟩) n n)).toArray 32) = W3 at *
      clear hB8 c24
      have hwr : IntKind.i64.wrap ((j : Int) + 1) = (j : Int) + 1 := IntWalk.i64_in _ (by omega)
      have hi2 : (Try.prog.info? 51).map (·.size) = some 2 := by kernel_rfl
      have hgv : g ≠ vg := by omega
      have hjn : (j : Int) < (n : Int) := by omega
      have hjn1 : (j : Int) + 1 < (n : Int) := by omega
      have hj0 : (0 : Int) ≤ (j : Int) := by omega
      have hj1 : (0 : Int) ≤ (j : Int) + 1 := by omega
      have h8 : some B8 ≠ some vg := fun e => by have := Option.some.inj e; omega
      have h0v : some w.heap.size ≠ some vg := fun e => by have := Option.some.inj e; omega
      have R0 : Hid (∀ w', W3.grownBy w' (some vg) → w'.rangeAt g (j * 2) (ints [fs.getD (j * 2) 0, fs.getD (j * 2 + 1) 0])) := Lib.hid (fun w' hw => by
        have q := HR.out.grownP hw (fun _ z hz => .inr (fun e => hgv (by injection hz with hz; have e2 := Option.some.inj (show some g = some z from e); omega)))
        exact range_two (q.cell (j * 2) (by omega)) (q.cell (j * 2 + 1) (by omega)))
      have R1 : Hid (∀ w', W3.grownBy w' (some vg) → w'.rangeAt g ((j + 1) * 2) (ints [fs.getD ((j + 1) * 2) 0, fs.getD ((j + 1) * 2 + 1) 0])) := Lib.hid (fun w' hw => by
        have q := HR.out.grownP hw (fun _ z hz => .inr (fun e => hgv (by injection hz with hz; have e2 := Option.some.inj (show some g = some z from e); omega)))
        exact range_two (q.cell ((j + 1) * 2) (by omega)) (q.cell ((j + 1) * 2 + 1) (by omega)))
      have SW := Lib.hid (swF_eq fs j)
      generalize fs.getD (j * 2) 0 = x0 at *
      generalize fs.getD (j * 2 + 1) 0 = y0 at *
      generalize fs.getD ((j + 1) * 2) 0 = x1 at *
      generalize fs.getD ((j + 1) * 2 + 1) 0 = y1 at *
      refine wp_region_held_drew (S := fun w' => W3.grownBy w' (some vg)) (by kernel_rfl) (gbDrewY W3 (some vg)) (fun hHeld => ?_)
      (refine wpAnyH_take (i := 0) (v := ?_) rfl (by kernel_rfl) (by kernel_rfl) (by kernel_rfl) (fun _ _ _ h => h) (Or.inl ⟨by rfl, ?_⟩) hHeld ?_; rotate_left; (· (intro w' hSw; go_simp; try with_reducible rfl)); (try simp only [List.getElem_toArray, List.getElem_cons_zero, List.getElem_cons_succ, Act.put, List.setIfInBounds_toArray, List.set_cons_zero, List.set_cons_succ])); (refine wpAnyH_take (i := 2) (v := ?_) rfl (by kernel_rfl) (by kernel_rfl) (by kernel_rfl) (fun _ _ _ h => h) (Or.inl ⟨by rfl, ?_⟩) hHeld ?_; rotate_left; (· (intro w' hSw; go_simp; try with_reducible rfl)); (try simp only [List.getElem_toArray, List.getElem_cons_zero, List.getElem_cons_succ, Act.put, List.setIfInBounds_toArray, List.set_cons_zero, List.set_cons_succ])); (refine wpAnyH_take (i := 3) (v := ?_) rfl (by kernel_rfl) (by kernel_rfl) (by kernel_rfl) (fun _ _ _ h => h) (Or.inl ⟨by rfl, ?_⟩) hHeld ?_; rotate_left; (· (intro w' hSw; go_simp; try with_reducible rfl)); (try simp only [List.getElem_toArray, List.getElem_cons_zero, List.getElem_cons_succ, Act.put, List.setIfInBounds_toArray, List.set_cons_zero, List.set_cons_succ])); (refine wpAnyH_take (i := 5) (v := ?_) rfl (by kernel_rfl) (by kernel_rfl) (by kernel_rfl) (fun _ _ _ h => h) (Or.inl ⟨by rfl, ?_⟩) hHeld ?_; rotate_left; (· (intro w' hSw; go_simp; try with_reducible rfl)); (try simp only [List.getElem_toArray, List.getElem_cons_zero, List.getElem_cons_succ, Act.put, List.setIfInBounds_toArray, List.set_cons_zero, List.set_cons_succ])); (refine wpAnyH_take (i := 6) (v := ?_) rfl (by kernel_rfl) (by kernel_rfl) (by kernel_rfl) (fun _ _ _ h => h) (Or.inl ⟨by rfl, ?_⟩) hHeld ?_; rotate_left; (· (intro w' hSw; go_simp; try with_reducible rfl)); (try simp only [List.getElem_toArray, List.getElem_cons_zero, List.getElem_cons_succ, Act.put, List.setIfInBounds_toArray, List.set_cons_zero, List.set_cons_succ])); (refine wpAnyH_take (i := 7) (v := ?_) rfl (by kernel_rfl) (by kernel_rfl) (by kernel_rfl) (fun _ _ _ h => h) (Or.inl ⟨by rfl, ?_⟩) hHeld ?_; rotate_left; (· (intro w' hSw; go_simp; try with_reducible rfl)); (try simp only [List.getElem_toArray, List.getElem_cons_zero, List.getElem_cons_succ, Act.put, List.setIfInBounds_toArray, List.set_cons_zero, List.set_cons_succ])); (refine wpAnyH_take (i := 9) (v := ?_) rfl (by kernel_rfl) (by kernel_rfl) (by kernel_rfl) (fun _ _ _ h => h) (Or.inl ⟨by rfl, ?_⟩) hHeld ?_; rotate_left; (· (intro w' hSw; go_simp; try with_reducible rfl)); (try simp only [List.getElem_toArray, List.getElem_cons_zero, List.getElem_cons_succ, Act.put, List.setIfInBounds_toArray, List.set_cons_zero, List.set_cons_succ])); (refine wpAnyH_take (i := 10) (v := ?_) rfl (by kernel_rfl) (by kernel_rfl) (by kernel_rfl) (fun _ _ _ h => h) (Or.inl ⟨by rfl, ?_⟩) hHeld ?_; rotate_left; (· (intro w' hSw; go_simp; try with_reducible rfl)); (try simp only [List.getElem_toArray, List.getElem_cons_zero, List.getElem_cons_succ, Act.put, List.setIfInBounds_toArray, List.set_cons_zero, List.set_cons_succ])); (refine wpAnyH_take (i := 13) (v := ?_) rfl (by kernel_rfl) (by kernel_rfl) (by kernel_rfl) (fun _ _ _ h => h) (Or.inl ⟨by rfl, ?_⟩) hHeld ?_; rotate_left; (· (intro w' hSw; go_simp; try with_reducible rfl)); (try simp only [List.getElem_toArray, List.getElem_cons_zero, List.getElem_cons_succ, Act.put, List.setIfInBounds_toArray, List.set_cons_zero, List.set_cons_succ])); (refine wpAnyH_take (i := 15) (v := ?_) rfl (by kernel_rfl) (by kernel_rfl) (by kernel_rfl) (fun _ _ _ h => h) (Or.inl ⟨by rfl, ?_⟩) hHeld ?_; rotate_left; (· (intro w' hSw; go_simp; try with_reducible rfl)); (try simp only [List.getElem_toArray, List.getElem_cons_zero, List.getElem_cons_succ, Act.put, List.setIfInBounds_toArray, List.set_cons_zero, List.set_cons_succ]))
      (refine wpAnyH_take (i := 1) (v := .slice (some ⟨vg, 0, none⟩) n n) rfl (by kernel_rfl) (by kernel_rfl) (by kernel_rfl) (fun _ _ _ h => h) (Or.inl ⟨by rfl, ?_⟩) hHeld ?_; (· (intro w' hSw; have q := (C8.grown hSw h8).pours; clear hSw; go_simp; try with_reducible rfl)); (try simp only [List.getElem_toArray, List.getElem_cons_zero, List.getElem_cons_succ, Act.put, List.setIfInBounds_toArray, List.set_cons_zero, List.set_cons_succ]))
      (refine wpAnyH_take (i := 4) (v := .slice (some ⟨vg, 0, none⟩) n n) rfl (by kernel_rfl) (by kernel_rfl) (by kernel_rfl) (fun _ _ _ h => h) (Or.inl ⟨by rfl, ?_⟩) hHeld ?_; (· (intro w' hSw; have q := (C8.grown hSw h8).pours; clear hSw; go_simp; try with_reducible rfl)); (try simp only [List.getElem_toArray, List.getElem_cons_zero, List.getElem_cons_succ, Act.put, List.setIfInBounds_toArray, List.set_cons_zero, List.set_cons_succ]))
      (refine wpAnyH_take (i := 8) (v := .slice (some ⟨g, 0, none⟩) n cap) rfl (by kernel_rfl) (by kernel_rfl) (by kernel_rfl) (fun _ _ _ h => h) (Or.inl ⟨by rfl, ?_⟩) hHeld ?_; (· (intro w' hSw; have q := (RY.grown hSw h0v).pours; clear hSw; go_simp; try with_reducible rfl)); (try simp only [List.getElem_toArray, List.getElem_cons_zero, List.getElem_cons_succ, Act.put, List.setIfInBounds_toArray, List.set_cons_zero, List.set_cons_succ]))
      (refine wpAnyH_take (i := 14) (v := .slice (some ⟨g, 0, none⟩) n cap) rfl (by kernel_rfl) (by kernel_rfl) (by kernel_rfl) (fun _ _ _ h => h) (Or.inl ⟨by rfl, ?_⟩) hHeld ?_; (· (intro w' hSw; have q := (RY.grown hSw h0v).pours; clear hSw; go_simp; try with_reducible rfl)); (try simp only [List.getElem_toArray, List.getElem_cons_zero, List.getElem_cons_succ, Act.put, List.setIfInBounds_toArray, List.set_cons_zero, List.set_cons_succ]))
      (refine wpAnyH_take (i := 11) (v := ?_) rfl (by kernel_rfl) (by kernel_rfl) (by kernel_rfl) (fun _ _ _ h => h) (Or.inl ⟨by rfl, ?_⟩) hHeld ?_; rotate_left; (· (intro w' hSw; go_simp; try with_reducible rfl)); (try simp only [List.getElem_toArray, List.getElem_cons_zero, List.getElem_cons_succ, Act.put, List.setIfInBounds_toArray, List.set_cons_zero, List.set_cons_succ])); (refine wpAnyH_take (i := 16) (v := ?_) rfl (by kernel_rfl) (by kernel_rfl) (by kernel_rfl) (fun _ _ _ h => h) (Or.inl ⟨by rfl, ?_⟩) hHeld ?_; rotate_left; (· (intro w' hSw; go_simp; try with_reducible rfl)); (try simp only [List.getElem_toArray, List.getElem_cons_zero, List.getElem_cons_succ, Act.put, List.setIfInBounds_toArray, List.set_cons_zero, List.set_cons_succ]))
      (refine wpAnyH_take (i := 12) (v := _) rfl (by kernel_rfl) (by kernel_rfl) (by kernel_rfl) (fun _ _ _ h => h) (yieldsIf_load_mid (by rfl) 51 _ rfl _ _ rfl (ints [x1, y1]) _ (fun w' hSw => R1.out w' hSw) Try.underlying51 rfl (hi2)) hHeld ?_; (try simp only [List.getElem_toArray, List.getElem_cons_zero, List.getElem_cons_succ, Act.put, List.setIfInBounds_toArray, List.set_cons_zero, List.set_cons_succ]))
      (refine wpAnyH_take (i := 17) (v := _) rfl (by kernel_rfl) (by kernel_rfl) (by kernel_rfl) (fun _ _ _ h => h) (yieldsIf_load_mid (by rfl) 51 _ rfl _ _ rfl (ints [x0, y0]) _ (fun w' hSw => R0.out w' hSw) Try.underlying51 rfl (hi2)) hHeld ?_; (try simp only [List.getElem_toArray, List.getElem_cons_zero, List.getElem_cons_succ, Act.put, List.setIfInBounds_toArray, List.set_cons_zero, List.set_cons_succ]))
      (refine wpAnyH_take (i := 18) (v := ?_) rfl (by kernel_rfl) (by kernel_rfl) (by kernel_rfl) (fun _ _ _ h => h) (Or.inl ⟨by rfl, ?_⟩) hHeld ?_; rotate_left; (· (intro w' hSw; go_simp; try with_reducible rfl)); (try simp only [List.getElem_toArray, List.getElem_cons_zero, List.getElem_cons_succ, Act.put, List.setIfInBounds_toArray, List.set_cons_zero, List.set_cons_succ]))
      have QD : Rw W3.drew _ _ n fs := Q3.out.below ((kept_refl W3).drewN 1)
      have hi2' : (Try.prog.info? 51).map (·.size) = some (ints [x1, y1]).length := hi2
      have hi2'' : (Try.prog.info? 51).map (·.size) = some (ints [x0, y0]).length := hi2
      have T1 := QD.there2 j (by omega)
      have P1 := QD.putPair j (by omega) x1 y1
      have G1 := grownBy_goY hHeld (grownPutsY2 W3.drew vg (j * 2) (ints [x1, y1]))
      have T2 := P1.there2 (j + 1) (by omega)
      have P2 := P1.putPair (j + 1) (by omega) x0 y0
      have G2 := grownBy_goY G1 (grownPutsY2 _ vg ((j + 1) * 2) (ints [x0, y0]))
      rw [SW.out] at P2
      (refine wpAnyH_ready (rs := [19]) (by kernel_rfl) (by simp) ?_; refine AllReadyH.cons (o := _) rfl (fun K hK => ?_) AllReadyH.nil; (simp only [List.getElem_toArray, List.getElem_cons_zero, List.getElem_cons_succ, Region.wanted, if_true]))
      refine wp_store_mid _ _ _ rfl _ _ (ints [x1, y1]).toArray rfl rfl T1 hi2' (all_oneCell_toArray (ints_one _)) ?_
      (try simp only [List.getElem_toArray, List.getElem_cons_zero, List.getElem_cons_succ, Act.put, List.setIfInBounds_toArray, List.set_cons_zero, List.set_cons_succ, List.toList_toArray])
      refine hK.out _ _ G1 (fun hHeld => ?_)
      clear hK K
      (refine wpAnyH_take (i := 20) (v := ?_) rfl (by kernel_rfl) (by kernel_rfl) (by kernel_rfl) (fun _ _ _ h => h) (Or.inl ⟨by rfl, ?_⟩) hHeld ?_; rotate_left; (· (intro w' hSw; go_simp; try with_reducible rfl)); (try simp only [List.getElem_toArray, List.getElem_cons_zero, List.getElem_cons_succ, Act.put, List.setIfInBounds_toArray, List.set_cons_zero, List.set_cons_succ]))
      (refine wpAnyH_ready (rs := [21]) (by kernel_rfl) (by simp) ?_; refine AllReadyH.cons (o := _) rfl (fun K hK => ?_) AllReadyH.nil; (simp only [List.getElem_toArray, List.getElem_cons_zero, List.getElem_cons_succ, Region.wanted, if_true]))
      refine wp_store_mid _ _ _ rfl _ _ (ints [x0, y0]).toArray rfl rfl T2 hi2'' (all_oneCell_toArray (ints_one _)) ?_
      (try simp only [List.getElem_toArray, List.getElem_cons_zero, List.getElem_cons_succ, Act.put, List.setIfInBounds_toArray, List.set_cons_zero, List.set_cons_succ, List.toList_toArray])
      refine hK.out _ _ G2 (fun hHeld => ?_)
      clear hK K
      refine wpAnyH_done (by kernel_rfl) ?_ _
      clear hHeld
      have a6 : some B6 ≠ some vg := fun e => by have := Option.some.inj e; omega
      have A6 := A1.grownCs G2 a6
      have C9 := C8.grown G2 h8
      have K9 : Hid (Kept w ((W3.drew.setCells vg (j * 2) (ints [x1, y1])).setCells vg ((j + 1) * 2) (ints [x0, y0]))) := Lib.hid (HB.out.grown G2 HB.out.size (fun z hz => by have := Option.some.inj hz; omega))
      have Q9 := Lib.hid (P2.mono (b' := 0) (Nat.zero_le _))
      clear T1 P1 G1 T2 P2 G2 QD HB A1 C8 RY HR Q3 R0 R1 SW
      generalize (W3.drew.setCells vg (j * 2) (ints [x1, y1])).setCells vg ((j + 1) * 2) (ints [x0, y0]) = W4 at *
      obtain ⟨sw, hsw⟩ : ∃ sw, swF fs j = sw := ⟨_, rfl⟩
      rw [hsw] at Q9 EA
      clear hsw
      go_wp2_with (refine guardY (isLdY 32) ?_ ?_; (· rfl); refine load_ry rfl 32 _ rfl B8 rfl _ _ _ C9 _ Try.underlying32 rfl ?_ ?_; (· kernel_rfl))
      refine (last_any ns sw _ n 0 _ H24.out hn Q9.out).mono ?_
      rintro e w5 ⟨rfl, b5⟩
      rw [row_ints]
      have hO := rrA_len H24.out sw n (n : Nat)
      have ER : Hid (rpOk ns sw n = true → rrA ns sw n (n : Nat) = doR ns sw n) := Lib.hid (fun h => (rr_yes h (Nat.le_refl n)).2)
      have A9 := Has.box w5 30 hO (by omega)
      replace A6 := (A6.below b5).alloc (.cells (ints (rrA ns sw n (n : Nat))).toArray 30)
      replace K9 := Lib.hid ((K9.out.call b5).alloc (.cells (ints (rrA ns sw n (n : Nat))).toArray 30))
      clear b5 Q9 C9
      cases hok : rpOk ns sw n with
      | false =>
        rw [hok] at EA
        have EF : Hid (csA ns fs n (j : Int) = false) := Lib.hid (EA.out.trans rfl)
        clear hok ER EA
        go_wp2_with (refine guardY (isStY 30) ?_ ?_; (· rfl); (refine store_new rfl 30 _ _ rfl _ _ _ rfl _ rfl _ rfl rfl ?_ ?_ ?_; (· (first | assumption | rfl)); (· kernel_rfl)))
        go_ret2
        exact ⟨by rw [EO.out, EF.out]; rfl, K9.out⟩
      | true =>
        rw [hok, ← ER.out hok] at EA
        obtain ⟨O, hOO⟩ : ∃ O, rrA ns sw n (n : Nat) = O := ⟨_, rfl⟩
        rw [hOO] at hO A9 A6 K9 EA ⊢
        have EF : Hid (csA ns fs n (j : Int) = decide (O = R)) := Lib.hid (EA.out.trans (Bool.true_and _))
        have EQ := Lib.hid (eqRackT O R hO hR)
        clear hok ER EA hOO
        go_wp2_with (first | (refine guardY (isStY 30) ?_ ?_; (· rfl); (refine store_new rfl 30 _ _ rfl _ _ _ rfl _ rfl _ rfl rfl ?_ ?_ ?_; (· (first | assumption | rfl)); (· kernel_rfl))) | (refine guardY (isLdY 30) ?_ ?_; (· rfl); (refine load_has rfl 30 _ rfl _ rfl ?_ 24 ?_ _ Try.underlying30 rfl ?_ ?_; rotate_left; (· (repeat (first | (with_reducible assumption) | ((with_reducible refine Has.box _ _ ?_ ?_) <;> (first | assumption | decide)) | (with_reducible refine Has.alloc ?_ _) | ((with_reducible refine Has.putOther ?_ _ _ ?_); rotate_left; omega; skip) | ((with_reducible refine Has.below ?_ ?_); rotate_left; assumption)))); (· kernel_rfl))) | (refine guardY (isEqlY 30) ?_ ?_; (· rfl); refine eqlGo rfl 30 _ _ _ rfl O R rfl rfl HM.out EQ.out ?_))
        go_ret2
        exact ⟨by rw [EO.out, EF.out]; rfl, K9.out⟩
    · have EO := Lib.hid (cs_out (ns := ns) (fs := fs) hk)
      have EA := Lib.hid (csA_no (cs_out (ns := ns) (fs := fs) hk))
      have c24 := RY.pours
      by_cases h0 : k < 0
      · have k0 : decide (k < 0) = true := by simpa using h0
        clear hok ER hk h0
        go_wp2_with (refine guardY (isStY 30) ?_ ?_; (· rfl); (refine store_new rfl 30 _ _ rfl _ _ _ rfl _ rfl _ rfl rfl ?_ ?_ ?_; (· (first | assumption | rfl)); (· kernel_rfl)))
        go_ret2
        exact ⟨by rw [EO.out, EA.out]; rfl, HB.out⟩
      · have k0 : decide (k < 0) = false := by simpa using h0
        have k1 : decide ((n : Int) - 1 ≤ k) = true := by simp; omega
        clear hok ER hk h0
        go_wp2_with (refine guardY (isStY 30) ?_ ?_; (· rfl); (refine store_new rfl 30 _ _ rfl _ _ _ rfl _ rfl _ rfl rfl ?_ ?_ ?_; (· (first | assumption | rfl)); (· kernel_rfl)))
        go_ret2
        exact ⟨by rw [EO.out, EA.out]; rfl, HB.out⟩

set_option maxHeartbeats 3200000 in
set_option maxRecDepth 100000 in
theorem specCanSwap (ns fs : List Int) (v : Value) (n b : Nat) (k : Int) (w : World) (h24 : ns.length = 24) (hn : n ≤ 1048576) (h : Rw w b v n fs) :
    Calls Try.prog 18 #[rpV ns v, .int .i64 k] w fun e w' => e = .returned (.tuple #[.bool (csA ns fs n k), .bool (csOk ns fs n k)]) ∧ Kept w w' := by
  have HM : Hid (Try.prog.eqGuardType Try.prog.depth 30 = false) := Lib.hid (by kernel_rfl)
  obtain ⟨a, cap, rfl⟩ := h.shape
  have FL := Lib.hid h.flat
  have RY := Ry.box (v := .slice a n cap) w 32 h24
  have HB := Lib.hid ((kept_refl w).alloc (.cells (rpC ns (.slice a n cap)).toArray 32))
  have HR := Lib.hid (h.alloc (.cells (rpC ns (.slice a n cap)).toArray 32))
  have H24 := Lib.hid h24
  have HL := Lib.hid (doR_len h24 fs)
  have AP := Lib.hid (fun hn0 k hk => (h.ownlt hn0 k hk).2)
  clear h
  unfold rpV
  go_enter Try.func18, Try.ntmps18
  go_wp2_with (refine guardY (isLdY 32) ?_ ?_; (· rfl); refine load_ry rfl 32 _ rfl w.heap.size rfl _ _ _ RY _ Try.underlying32 rfl ?_ ?_; (· kernel_rfl))
  refine (l11Racks_any ns fs (.slice a n cap) n b _ h24 hn HR.out).mono ?_
  rintro e w1 ⟨u, rfl, q1, b1⟩
  have hs1 : w.heap.size < w1.heap.size := by have := b1.size; rw [size1] at this; omega
  replace RY := RY.below b1
  replace HB := Lib.hid (HB.out.call b1)
  replace HR := Lib.hid (HR.out.below b1)
  clear b1
  have c24 := RY.pours
  cases hok : rpOk ns fs n with
  | false =>
    have EO := Lib.hid (cs_no k hok)
    have EA := Lib.hid (csA_no (cs_no k hok))
    clear hok q1
    go_wp2_with fail
    go_ret2
    exact ⟨by rw [EO.out, EA.out]; rfl, HB.out⟩
  | true =>
    have n60 := rp_le hok
    have wr1 : IntKind.i64.wrap ((n : Int) - 2) = (n : Int) - 2 := IntWalk.i64_in _ (by omega)
    by_cases hk : 0 ≤ k ∧ k < (n : Int) - 1
    · obtain ⟨j, rfl⟩ : ∃ j : Nat, k = (j : Int) := ⟨k.toNat, by omega⟩
      have hj : j + 1 < n := by omega
      have EO := Lib.hid (cs_yes hok hj)
      have EA := Lib.hid (csA_yes EO.out)
      have hd := HR.out
      obtain ⟨g, cap2, hv', _, hgl⟩ := hd.form (by omega)
      injection hv' with ha _ hcap
      subst ha
      subst hcap
      have hgs : g < w.heap.size := AP.out (by omega) g rfl
      clear hd hgl
      have KD : Hid (decide ((0 : Int) ≤ (j : Int) ∧ (j : Int) ≤ (n : Int) - 2) = true) := Lib.hid (decide_eq_true (by omega))
      rw [rk_yes hok] at q1
      obtain ⟨ua, uc, rfl⟩ := q1.shape
      have hl := rks_len ns fs n
      obtain ⟨gg, cc, he, hg0, hg1⟩ := q1.form (by rw [hl]; omega)
      injection he with e1 _ e3
      subst e1
      subst e3
      rw [hl] at q1 ⊢
      have GU := Lib.hid q1
      have hR := HL.out n
      have EQR := Lib.hid (rks_get ns fs n n (Nat.le_refl _))
      clear hok hl q1
      go_wp2_with fail
      refine (l1In_any _ _ _ _).mono ?_
      rintro e w' ⟨rfl, rfl⟩
      rw [KD.out]
      go_wp2_with (refine guardY (isLdY 32) ?_ ?_; (· rfl); refine load_ry rfl 32 _ rfl w.heap.size rfl _ _ _ RY _ Try.underlying32 rfl ?_ ?_; (· kernel_rfl))
      refine (l11CutG_any ns fs _ n b n _ H24.out hn HR.out (Nat.le_refl _)).mono ?_
      rintro e w3 ⟨vg, vc, rfl, q3, b3⟩
      rw [List.take_of_length_le (by rw [FL.out]; omega)] at q3
      have hvg := World.ownsRow.lt q3 vg rfl
      have hgg : gg < w1.heap.size := hg1
      replace RY := RY.below b3
      replace HB := Lib.hid (HB.out.call b3)
      replace HR := Lib.hid (HR.out.below b3)
      replace GU := Lib.hid (GU.out.below b3)
      have Q3 := Lib.hid q3.rw
      clear q3 b3 c24
      have C8 := Ry.box (v := .slice (some ⟨vg, 0, none⟩) n vc) w3 32 H24.out
      replace RY := RY.alloc (.cells (rpC ns (.slice (some ⟨vg, 0, none⟩) n vc)).toArray 32)
      replace HB := Lib.hid (HB.out.alloc (.cells (rpC ns (.slice (some ⟨vg, 0, none⟩) n vc)).toArray 32))
      replace HR := Lib.hid (HR.out.alloc (.cells (rpC ns (.slice (some ⟨vg, 0, none⟩) n vc)).toArray 32))
      replace GU := Lib.hid (GU.out.alloc (.cells (rpC ns (.slice (some ⟨vg, 0, none⟩) n vc)).toArray 32))
      replace Q3 := Lib.hid (Q3.out.alloc (.cells (rpC ns (.slice (some ⟨vg, 0, none⟩) n vc)).toArray 32))
      go_upto_region 5 with (refine guardY (isStY 32) ?_ ?_; (· rfl); refine store_newry rfl 32 _ _ rfl w3 _ _ rfl _ rfl ns (.slice (some ⟨vg, 0, none⟩) n vc) rfl rfl rfl H24.out rfl ?_ ?_; (· kernel_rfl))
      obtain ⟨B8, hB8⟩ : ∃ x, w3.heap.size = x := ⟨_, rfl⟩
      rw [hB8] at C8 hvg ⊢
      generalize w3.alloc (.cells (rpC ns (.slice (some ⟨vg, 0, none⟩) n vc)).toArray 32) = W3 at *
      clear hB8
      have hwr : IntKind.i64.wrap ((j : Int) + 1) = (j : Int) + 1 := IntWalk.i64_in _ (by omega)
      have hi2 : (Try.prog.info? 51).map (·.size) = some 2 := by kernel_rfl
      have hgv : g ≠ vg := by omega
      have hjn : (j : Int) < (n : Int) := by omega
      have hjn1 : (j : Int) + 1 < (n : Int) := by omega
      have hj0 : (0 : Int) ≤ (j : Int) := by omega
      have hj1 : (0 : Int) ≤ (j : Int) + 1 := by omega
      have h8 : some B8 ≠ some vg := fun e => by have := Option.some.inj e; omega
      have h0v : some w.heap.size ≠ some vg := fun e => by have := Option.some.inj e; omega
      have hgu : ∀ z, (Value.slice (some ⟨gg, 0, none⟩) (n + 1) uc).ownBlock = some z → (some vg : Option Nat) ≠ some z := fun z hz e => by have h1 := Option.some.inj (show some gg = some z from hz); have h2 := Option.some.inj e; omega
      have R0 : Hid (∀ w', W3.grownBy w' (some vg) → w'.rangeAt g (j * 2) (ints [fs.getD (j * 2) 0, fs.getD (j * 2 + 1) 0])) := Lib.hid (fun w' hw => by
        have q := HR.out.grownP hw (fun _ z hz => .inr (fun e => hgv (by injection hz with hz; have e2 := Option.some.inj (show some g = some z from e); omega)))
        exact range_two (q.cell (j * 2) (by omega)) (q.cell (j * 2 + 1) (by omega)))
      have R1 : Hid (∀ w', W3.grownBy w' (some vg) → w'.rangeAt g ((j + 1) * 2) (ints [fs.getD ((j + 1) * 2) 0, fs.getD ((j + 1) * 2 + 1) 0])) := Lib.hid (fun w' hw => by
        have q := HR.out.grownP hw (fun _ z hz => .inr (fun e => hgv (by injection hz with hz; have e2 := Option.some.inj (show some g = some z from e); omega)))
        exact range_two (q.cell ((j + 1) * 2) (by omega)) (q.cell ((j + 1) * 2 + 1) (by omega)))
      have SW := Lib.hid (swF_eq fs j)
      generalize fs.getD (j * 2) 0 = x0 at *
      generalize fs.getD (j * 2 + 1) 0 = y0 at *
      generalize fs.getD ((j + 1) * 2) 0 = x1 at *
      generalize fs.getD ((j + 1) * 2 + 1) 0 = y1 at *
      refine wp_region_held_drew (S := fun w' => W3.grownBy w' (some vg)) (by kernel_rfl) (gbDrewY W3 (some vg)) (fun hHeld => ?_)
      (refine wpAnyH_take (i := 0) (v := ?_) rfl (by kernel_rfl) (by kernel_rfl) (by kernel_rfl) (fun _ _ _ h => h) (Or.inl ⟨by rfl, ?_⟩) hHeld ?_; rotate_left; (· (intro w' hSw; go_simp; try with_reducible rfl)); (try simp only [List.getElem_toArray, List.getElem_cons_zero, List.getElem_cons_succ, Act.put, List.setIfInBounds_toArray, List.set_cons_zero, List.set_cons_succ])); (refine wpAnyH_take (i := 2) (v := ?_) rfl (by kernel_rfl) (by kernel_rfl) (by kernel_rfl) (fun _ _ _ h => h) (Or.inl ⟨by rfl, ?_⟩) hHeld ?_; rotate_left; (· (intro w' hSw; go_simp; try with_reducible rfl)); (try simp only [List.getElem_toArray, List.getElem_cons_zero, List.getElem_cons_succ, Act.put, List.setIfInBounds_toArray, List.set_cons_zero, List.set_cons_succ])); (refine wpAnyH_take (i := 3) (v := ?_) rfl (by kernel_rfl) (by kernel_rfl) (by kernel_rfl) (fun _ _ _ h => h) (Or.inl ⟨by rfl, ?_⟩) hHeld ?_; rotate_left; (· (intro w' hSw; go_simp; try with_reducible rfl)); (try simp only [List.getElem_toArray, List.getElem_cons_zero, List.getElem_cons_succ, Act.put, List.setIfInBounds_toArray, List.set_cons_zero, List.set_cons_succ])); (refine wpAnyH_take (i := 5) (v := ?_) rfl (by kernel_rfl) (by kernel_rfl) (by kernel_rfl) (fun _ _ _ h => h) (Or.inl ⟨by rfl, ?_⟩) hHeld ?_; rotate_left; (· (intro w' hSw; go_simp; try with_reducible rfl)); (try simp only [List.getElem_toArray, List.getElem_cons_zero, List.getElem_cons_succ, Act.put, List.setIfInBounds_toArray, List.set_cons_zero, List.set_cons_succ])); (refine wpAnyH_take (i := 6) (v := ?_) rfl (by kernel_rfl) (by kernel_rfl) (by kernel_rfl) (fun _ _ _ h => h) (Or.inl ⟨by rfl, ?_⟩) hHeld ?_; rotate_left; (· (intro w' hSw; go_simp; try with_reducible rfl)); (try simp only [List.getElem_toArray, List.getElem_cons_zero, List.getElem_cons_succ, Act.put, List.setIfInBounds_toArray, List.set_cons_zero, List.set_cons_succ]))
      (refine wpAnyH_take (i := 1) (v := .slice (some ⟨vg, 0, none⟩) n vc) rfl (by kernel_rfl) (by kernel_rfl) (by kernel_rfl) (fun _ _ _ h => h) (Or.inl ⟨by rfl, ?_⟩) hHeld ?_; (· (intro w' hSw; have q := (C8.grown hSw h8).pours; clear hSw; go_simp; try with_reducible rfl)); (try simp only [List.getElem_toArray, List.getElem_cons_zero, List.getElem_cons_succ, Act.put, List.setIfInBounds_toArray, List.set_cons_zero, List.set_cons_succ]))
      (refine wpAnyH_take (i := 4) (v := .slice (some ⟨g, 0, none⟩) n cap) rfl (by kernel_rfl) (by kernel_rfl) (by kernel_rfl) (fun _ _ _ h => h) (Or.inl ⟨by rfl, ?_⟩) hHeld ?_; (· (intro w' hSw; have q := (RY.grown hSw h0v).pours; clear hSw; go_simp; try with_reducible rfl)); (try simp only [List.getElem_toArray, List.getElem_cons_zero, List.getElem_cons_succ, Act.put, List.setIfInBounds_toArray, List.set_cons_zero, List.set_cons_succ]))
      (refine wpAnyH_take (i := 7) (v := ?_) rfl (by kernel_rfl) (by kernel_rfl) (by kernel_rfl) (fun _ _ _ h => h) (Or.inl ⟨by rfl, ?_⟩) hHeld ?_; rotate_left; (· (intro w' hSw; go_simp; try with_reducible rfl)); (try simp only [List.getElem_toArray, List.getElem_cons_zero, List.getElem_cons_succ, Act.put, List.setIfInBounds_toArray, List.set_cons_zero, List.set_cons_succ]))
      (refine wpAnyH_take (i := 8) (v := _) rfl (by kernel_rfl) (by kernel_rfl) (by kernel_rfl) (fun _ _ _ h => h) (yieldsIf_load_mid (by rfl) 51 _ rfl _ _ rfl (ints [x1, y1]) _ (fun w' hSw => R1.out w' hSw) Try.underlying51 rfl (hi2)) hHeld ?_; (try simp only [List.getElem_toArray, List.getElem_cons_zero, List.getElem_cons_succ, Act.put, List.setIfInBounds_toArray, List.set_cons_zero, List.set_cons_succ]))
      (refine wpAnyH_take (i := 9) (v := ?_) rfl (by kernel_rfl) (by kernel_rfl) (by kernel_rfl) (fun _ _ _ h => h) (Or.inl ⟨by rfl, ?_⟩) hHeld ?_; rotate_left; (· (intro w' hSw; go_simp; try with_reducible rfl)); (try simp only [List.getElem_toArray, List.getElem_cons_zero, List.getElem_cons_succ, Act.put, List.setIfInBounds_toArray, List.set_cons_zero, List.set_cons_succ]))
      have QD : Rw W3.drew _ _ n fs := Q3.out.below ((kept_refl W3).drewN 1)
      have hi2' : (Try.prog.info? 51).map (·.size) = some (ints [x1, y1]).length := hi2
      have T1 := QD.there2 j (by omega)
      have P1 := Lib.hid (QD.putPair j (by omega) x1 y1)
      have G1 := grownBy_goY hHeld (grownPutsY2 W3.drew vg (j * 2) (ints [x1, y1]))
      (refine wpAnyH_ready (rs := [10]) (by kernel_rfl) (by simp) ?_; refine AllReadyH.cons (o := _) rfl (fun K hK => ?_) AllReadyH.nil; (simp only [List.getElem_toArray, List.getElem_cons_zero, List.getElem_cons_succ, Region.wanted, if_true]))
      refine wp_store_mid _ _ _ rfl _ _ (ints [x1, y1]).toArray rfl rfl T1 hi2' (all_oneCell_toArray (ints_one _)) ?_
      (try simp only [List.getElem_toArray, List.getElem_cons_zero, List.getElem_cons_succ, Act.put, List.setIfInBounds_toArray, List.set_cons_zero, List.set_cons_succ, List.toList_toArray])
      refine hK.out _ _ G1 (fun hHeld => ?_)
      clear hK K
      refine wpAnyH_done (by kernel_rfl) ?_ _
      clear hHeld QD T1
      generalize W3.drew.setCells vg (j * 2) (ints [x1, y1]) = W4 at *
      go_wp2_with fail
      refine wp_region_held_drew (S := fun w' => W4.grownBy w' (some vg)) (by kernel_rfl) (gbDrewY W4 (some vg)) (fun hHeld => ?_)
      (refine wpAnyH_take (i := 0) (v := ?_) rfl (by kernel_rfl) (by kernel_rfl) (by kernel_rfl) (fun _ _ _ h => h) (Or.inl ⟨by rfl, ?_⟩) hHeld ?_; rotate_left; (· (intro w' hSw; go_simp; try with_reducible rfl)); (try simp only [List.getElem_toArray, List.getElem_cons_zero, List.getElem_cons_succ, Act.put, List.setIfInBounds_toArray, List.set_cons_zero, List.set_cons_succ])); (refine wpAnyH_take (i := 2) (v := ?_) rfl (by kernel_rfl) (by kernel_rfl) (by kernel_rfl) (fun _ _ _ h => h) (Or.inl ⟨by rfl, ?_⟩) hHeld ?_; rotate_left; (· (intro w' hSw; go_simp; try with_reducible rfl)); (try simp only [List.getElem_toArray, List.getElem_cons_zero, List.getElem_cons_succ, Act.put, List.setIfInBounds_toArray, List.set_cons_zero, List.set_cons_succ])); (refine wpAnyH_take (i := 3) (v := ?_) rfl (by kernel_rfl) (by kernel_rfl) (by kernel_rfl) (fun _ _ _ h => h) (Or.inl ⟨by rfl, ?_⟩) hHeld ?_; rotate_left; (· (intro w' hSw; go_simp; try with_reducible rfl)); (try simp only [List.getElem_toArray, List.getElem_cons_zero, List.getElem_cons_succ, Act.put, List.setIfInBounds_toArray, List.set_cons_zero, List.set_cons_succ])); (refine wpAnyH_take (i := 4) (v := ?_) rfl (by kernel_rfl) (by kernel_rfl) (by kernel_rfl) (fun _ _ _ h => h) (Or.inl ⟨by rfl, ?_⟩) hHeld ?_; rotate_left; (· (intro w' hSw; go_simp; try with_reducible rfl)); (try simp only [List.getElem_toArray, List.getElem_cons_zero, List.getElem_cons_succ, Act.put, List.setIfInBounds_toArray, List.set_cons_zero, List.set_cons_succ])); (refine wpAnyH_take (i := 6) (v := ?_) rfl (by kernel_rfl) (by kernel_rfl) (by kernel_rfl) (fun _ _ _ h => h) (Or.inl ⟨by rfl, ?_⟩) hHeld ?_; rotate_left; (· (intro w' hSw; go_simp; try with_reducible rfl)); (try simp only [List.getElem_toArray, List.getElem_cons_zero, List.getElem_cons_succ, Act.put, List.setIfInBounds_toArray, List.set_cons_zero, List.set_cons_succ]))
      (refine wpAnyH_take (i := 1) (v := .slice (some ⟨vg, 0, none⟩) n vc) rfl (by kernel_rfl) (by kernel_rfl) (by kernel_rfl) (fun _ _ _ h => h) (Or.inl ⟨by rfl, ?_⟩) hHeld ?_; (· (intro w' hSw; have q := (C8.grown (grownBy_goY G1 hSw) h8).pours; clear hSw; go_simp; try with_reducible rfl)); (try simp only [List.getElem_toArray, List.getElem_cons_zero, List.getElem_cons_succ, Act.put, List.setIfInBounds_toArray, List.set_cons_zero, List.set_cons_succ]))
      (refine wpAnyH_take (i := 5) (v := .slice (some ⟨g, 0, none⟩) n cap) rfl (by kernel_rfl) (by kernel_rfl) (by kernel_rfl) (fun _ _ _ h => h) (Or.inl ⟨by rfl, ?_⟩) hHeld ?_; (· (intro w' hSw; have q := (RY.grown (grownBy_goY G1 hSw) h0v).pours; clear hSw; go_simp; try with_reducible rfl)); (try simp only [List.getElem_toArray, List.getElem_cons_zero, List.getElem_cons_succ, Act.put, List.setIfInBounds_toArray, List.set_cons_zero, List.set_cons_succ]))
      (refine wpAnyH_take (i := 7) (v := ?_) rfl (by kernel_rfl) (by kernel_rfl) (by kernel_rfl) (fun _ _ _ h => h) (Or.inl ⟨by rfl, ?_⟩) hHeld ?_; rotate_left; (· (intro w' hSw; go_simp; try with_reducible rfl)); (try simp only [List.getElem_toArray, List.getElem_cons_zero, List.getElem_cons_succ, Act.put, List.setIfInBounds_toArray, List.set_cons_zero, List.set_cons_succ]))
      (refine wpAnyH_take (i := 8) (v := _) rfl (by kernel_rfl) (by kernel_rfl) (by kernel_rfl) (fun _ _ _ h => h) (yieldsIf_load_mid (by rfl) 51 _ rfl _ _ rfl (ints [x0, y0]) _ (fun w' hSw => R0.out w' (grownBy_goY G1 hSw)) Try.underlying51 rfl (hi2)) hHeld ?_; (try simp only [List.getElem_toArray, List.getElem_cons_zero, List.getElem_cons_succ, Act.put, List.setIfInBounds_toArray, List.set_cons_zero, List.set_cons_succ]))
      (refine wpAnyH_take (i := 9) (v := ?_) rfl (by kernel_rfl) (by kernel_rfl) (by kernel_rfl) (fun _ _ _ h => h) (Or.inl ⟨by rfl, ?_⟩) hHeld ?_; rotate_left; (· (intro w' hSw; go_simp; try with_reducible rfl)); (try simp only [List.getElem_toArray, List.getElem_cons_zero, List.getElem_cons_succ, Act.put, List.setIfInBounds_toArray, List.set_cons_zero, List.set_cons_succ]))
      have QD : Rw W4.drew _ _ n _ := P1.out.below ((kept_refl W4).drewN 1)
      have hi2'' : (Try.prog.info? 51).map (·.size) = some (ints [x0, y0]).length := hi2
      have T2 := QD.there2 (j + 1) (by omega)
      have P2 := Lib.hid (QD.putPair (j + 1) (by omega) x0 y0)
      rw [SW.out] at P2
      have G2 := grownBy_goY hHeld (grownPutsY2 W4.drew vg ((j + 1) * 2) (ints [x0, y0]))
      (refine wpAnyH_ready (rs := [10]) (by kernel_rfl) (by simp) ?_; refine AllReadyH.cons (o := _) rfl (fun K hK => ?_) AllReadyH.nil; (simp only [List.getElem_toArray, List.getElem_cons_zero, List.getElem_cons_succ, Region.wanted, if_true]))
      refine wp_store_mid _ _ _ rfl _ _ (ints [x0, y0]).toArray rfl rfl T2 hi2'' (all_oneCell_toArray (ints_one _)) ?_
      (try simp only [List.getElem_toArray, List.getElem_cons_zero, List.getElem_cons_succ, Act.put, List.setIfInBounds_toArray, List.set_cons_zero, List.set_cons_succ, List.toList_toArray])
      refine hK.out _ _ G2 (fun hHeld => ?_)
      clear hK K
      refine wpAnyH_done (by kernel_rfl) ?_ _
      clear hHeld QD T2
      replace G2 := grownBy_goY G1 G2
      generalize W4.drew.setCells vg ((j + 1) * 2) (ints [x0, y0]) = W5 at *
      have C9 := C8.grown G2 h8
      have U9 := Lib.hid (GU.out.kept G2 hgu)
      have K9 : Hid (Kept w W5) := Lib.hid (HB.out.grown G2 HB.out.size (fun z hz => by have := Option.some.inj hz; omega))
      have Q9 := Lib.hid (P2.out.mono (b' := 0) (Nat.zero_le _))
      clear P1 P2 G1 G2 HB C8 RY HR Q3 R0 R1 SW GU
      obtain ⟨sw, hsw⟩ : ∃ sw, swF fs j = sw := ⟨_, rfl⟩
      rw [hsw] at Q9 EA
      clear hsw
      go_wp2_with (refine guardY (isLdY 32) ?_ ?_; (· rfl); refine load_ry rfl 32 _ rfl B8 rfl _ _ _ C9 _ Try.underlying32 rfl ?_ ?_; (· kernel_rfl))
      refine (l11Racks_any ns sw _ n 0 _ H24.out hn Q9.out).mono ?_
      rintro e w6 ⟨z, rfl, q6, b6⟩
      replace U9 := Lib.hid (U9.out.below b6)
      replace K9 := Lib.hid (K9.out.call b6)
      clear b6 Q9 C9
      cases hok : rpOk ns sw n with
      | false =>
        rw [hok] at EA
        have EF : Hid (csA ns fs n (j : Int) = false) := Lib.hid (EA.out.trans rfl)
        clear hok EA q6
        go_wp2_with fail
        refine wp_region_held_drew (S := fun w' => Kept w6 w') (by kernel_rfl) ((kept_refl w6).drewN 1) (fun hHeld => ?_)
        (refine wpAnyH_take (i := 0) (v := ?_) rfl (by kernel_rfl) (by kernel_rfl) (by kernel_rfl) (fun _ _ _ h => h) (Or.inl ⟨by rfl, ?_⟩) hHeld ?_; rotate_left; (· (intro w' hSw; go_simp; try with_reducible rfl)); (try simp only [List.getElem_toArray, List.getElem_cons_zero, List.getElem_cons_succ, Act.put, List.setIfInBounds_toArray, List.set_cons_zero, List.set_cons_succ])); (refine wpAnyH_take (i := 1) (v := ?_) rfl (by kernel_rfl) (by kernel_rfl) (by kernel_rfl) (fun _ _ _ h => h) (Or.inl ⟨by rfl, ?_⟩) hHeld ?_; rotate_left; (· (intro w' hSw; go_simp; try with_reducible rfl)); (try simp only [List.getElem_toArray, List.getElem_cons_zero, List.getElem_cons_succ, Act.put, List.setIfInBounds_toArray, List.set_cons_zero, List.set_cons_succ]))
        (refine wpAnyH_take (i := 2) (v := undef) rfl (by kernel_rfl) (by kernel_rfl) (by kernel_rfl) (fun _ _ _ h => h) (Or.inr ⟨by rfl, rfl⟩) hHeld ?_; (try simp only [List.getElem_toArray, List.getElem_cons_zero, List.getElem_cons_succ, Act.put, List.setIfInBounds_toArray, List.set_cons_zero, List.set_cons_succ])); (refine wpAnyH_take (i := 3) (v := undef) rfl (by kernel_rfl) (by kernel_rfl) (by kernel_rfl) (fun _ _ _ h => h) (Or.inr ⟨by rfl, rfl⟩) hHeld ?_; (try simp only [List.getElem_toArray, List.getElem_cons_zero, List.getElem_cons_succ, Act.put, List.setIfInBounds_toArray, List.set_cons_zero, List.set_cons_succ])); (refine wpAnyH_take (i := 4) (v := undef) rfl (by kernel_rfl) (by kernel_rfl) (by kernel_rfl) (fun _ _ _ h => h) (Or.inr ⟨by rfl, rfl⟩) hHeld ?_; (try simp only [List.getElem_toArray, List.getElem_cons_zero, List.getElem_cons_succ, Act.put, List.setIfInBounds_toArray, List.set_cons_zero, List.set_cons_succ])); (refine wpAnyH_take (i := 5) (v := undef) rfl (by kernel_rfl) (by kernel_rfl) (by kernel_rfl) (fun _ _ _ h => h) (Or.inr ⟨by rfl, rfl⟩) hHeld ?_; (try simp only [List.getElem_toArray, List.getElem_cons_zero, List.getElem_cons_succ, Act.put, List.setIfInBounds_toArray, List.set_cons_zero, List.set_cons_succ])); (refine wpAnyH_take (i := 6) (v := undef) rfl (by kernel_rfl) (by kernel_rfl) (by kernel_rfl) (fun _ _ _ h => h) (Or.inr ⟨by rfl, rfl⟩) hHeld ?_; (try simp only [List.getElem_toArray, List.getElem_cons_zero, List.getElem_cons_succ, Act.put, List.setIfInBounds_toArray, List.set_cons_zero, List.set_cons_succ])); (refine wpAnyH_take (i := 7) (v := undef) rfl (by kernel_rfl) (by kernel_rfl) (by kernel_rfl) (fun _ _ _ h => h) (Or.inr ⟨by rfl, rfl⟩) hHeld ?_; (try simp only [List.getElem_toArray, List.getElem_cons_zero, List.getElem_cons_succ, Act.put, List.setIfInBounds_toArray, List.set_cons_zero, List.set_cons_succ])); (refine wpAnyH_take (i := 8) (v := undef) rfl (by kernel_rfl) (by kernel_rfl) (by kernel_rfl) (fun _ _ _ h => h) (Or.inr ⟨by rfl, rfl⟩) hHeld ?_; (try simp only [List.getElem_toArray, List.getElem_cons_zero, List.getElem_cons_succ, Act.put, List.setIfInBounds_toArray, List.set_cons_zero, List.set_cons_succ])); (refine wpAnyH_take (i := 9) (v := undef) rfl (by kernel_rfl) (by kernel_rfl) (by kernel_rfl) (fun _ _ _ h => h) (Or.inr ⟨by rfl, rfl⟩) hHeld ?_; (try simp only [List.getElem_toArray, List.getElem_cons_zero, List.getElem_cons_succ, Act.put, List.setIfInBounds_toArray, List.set_cons_zero, List.set_cons_succ])); (refine wpAnyH_take (i := 10) (v := undef) rfl (by kernel_rfl) (by kernel_rfl) (by kernel_rfl) (fun _ _ _ h => h) (Or.inr ⟨by rfl, rfl⟩) hHeld ?_; (try simp only [List.getElem_toArray, List.getElem_cons_zero, List.getElem_cons_succ, Act.put, List.setIfInBounds_toArray, List.set_cons_zero, List.set_cons_succ])); (refine wpAnyH_take (i := 11) (v := undef) rfl (by kernel_rfl) (by kernel_rfl) (by kernel_rfl) (fun _ _ _ h => h) (Or.inr ⟨by rfl, rfl⟩) hHeld ?_; (try simp only [List.getElem_toArray, List.getElem_cons_zero, List.getElem_cons_succ, Act.put, List.setIfInBounds_toArray, List.set_cons_zero, List.set_cons_succ])); (refine wpAnyH_take (i := 12) (v := undef) rfl (by kernel_rfl) (by kernel_rfl) (by kernel_rfl) (fun _ _ _ h => h) (Or.inr ⟨by rfl, rfl⟩) hHeld ?_; (try simp only [List.getElem_toArray, List.getElem_cons_zero, List.getElem_cons_succ, Act.put, List.setIfInBounds_toArray, List.set_cons_zero, List.set_cons_succ])); (refine wpAnyH_take (i := 13) (v := undef) rfl (by kernel_rfl) (by kernel_rfl) (by kernel_rfl) (fun _ _ _ h => h) (Or.inr ⟨by rfl, rfl⟩) hHeld ?_; (try simp only [List.getElem_toArray, List.getElem_cons_zero, List.getElem_cons_succ, Act.put, List.setIfInBounds_toArray, List.set_cons_zero, List.set_cons_succ])); (refine wpAnyH_take (i := 14) (v := undef) rfl (by kernel_rfl) (by kernel_rfl) (by kernel_rfl) (fun _ _ _ h => h) (Or.inr ⟨by rfl, rfl⟩) hHeld ?_; (try simp only [List.getElem_toArray, List.getElem_cons_zero, List.getElem_cons_succ, Act.put, List.setIfInBounds_toArray, List.set_cons_zero, List.set_cons_succ]))
        (refine wpAnyH_take (i := 15) (v := ?_) rfl (by kernel_rfl) (by kernel_rfl) (by kernel_rfl) (fun _ _ _ h => h) (Or.inl ⟨by rfl, ?_⟩) hHeld ?_; rotate_left; (· (intro w' hSw; go_simp; try with_reducible rfl)); (try simp only [List.getElem_toArray, List.getElem_cons_zero, List.getElem_cons_succ, Act.put, List.setIfInBounds_toArray, List.set_cons_zero, List.set_cons_succ])); (refine wpAnyH_take (i := 16) (v := ?_) rfl (by kernel_rfl) (by kernel_rfl) (by kernel_rfl) (fun _ _ _ h => h) (Or.inl ⟨by rfl, ?_⟩) hHeld ?_; rotate_left; (· (intro w' hSw; go_simp; try with_reducible rfl)); (try simp only [List.getElem_toArray, List.getElem_cons_zero, List.getElem_cons_succ, Act.put, List.setIfInBounds_toArray, List.set_cons_zero, List.set_cons_succ])); (refine wpAnyH_take (i := 17) (v := ?_) rfl (by kernel_rfl) (by kernel_rfl) (by kernel_rfl) (fun _ _ _ h => h) (Or.inl ⟨by rfl, ?_⟩) hHeld ?_; rotate_left; (· (intro w' hSw; go_simp; try with_reducible rfl)); (try simp only [List.getElem_toArray, List.getElem_cons_zero, List.getElem_cons_succ, Act.put, List.setIfInBounds_toArray, List.set_cons_zero, List.set_cons_succ]))
        refine wpAnyH_done (by kernel_rfl) ?_ _
        replace K9 := Lib.hid (K9.out.call hHeld)
        clear hHeld
        go_wp2_with fail
        go_ret2
        exact ⟨by rw [EO.out, EF.out]; rfl, K9.out⟩
      | true =>
        rw [hok] at EA
        rw [rk_yes hok] at q6
        have hl6 := rks_len ns sw n
        obtain ⟨za, zc, rfl⟩ := q6.shape
        obtain ⟨zg, zc2, he, hz0, hz1⟩ := q6.form (by rw [hl6]; omega)
        injection he with e1 _ e3
        subst e1
        subst e3
        rw [hl6] at q6 ⊢
        have Z6 := Lib.hid q6
        have hO := doR_len H24.out sw n
        have EF : Hid (csA ns fs n (j : Int) = decide (doR ns sw n = doR ns fs n)) := Lib.hid (EA.out.trans (Bool.true_and _))
        have RZ := Lib.hid (fun w' (hw : Kept w6 w') => (Z6.out.below hw).range hl6.symm n (by omega))
        have RU := Lib.hid (fun w' (hw : Kept w6 w') => (U9.out.below hw).range (rks_len ns fs n).symm n (by omega))
        rw [rks_get ns sw n n (Nat.le_refl _)] at RZ
        rw [EQR.out] at RU
        clear hok EA q6 hl6
        obtain ⟨O, hOO⟩ : ∃ O, doR ns sw n = O := ⟨_, rfl⟩
        obtain ⟨R, hRR⟩ : ∃ R, doR ns fs n = R := ⟨_, rfl⟩
        rw [hOO] at hO EF RZ
        rw [hRR] at hR EF RU
        clear hOO hRR
        have EQ := Lib.hid (eqRackT O R hO hR)
        have hiO : (Try.prog.info? 30).map (·.size) = some (ints O).length := by rw [ints_len, hO]; kernel_rfl
        have hiR : (Try.prog.info? 30).map (·.size) = some (ints R).length := by rw [ints_len, hR]; kernel_rfl
        have wr2 : IntKind.i64.wrap ((n : Int) + 1 - 1) = (n : Int) := by rw [IntWalk.i64_in _ (by omega)]; omega
        have wr4 : IntKind.i64.wrap (n : Int) = (n : Int) := IntWalk.i64_in _ (by omega)
        have wr3 : (n : Int) + 1 - 1 = (n : Int) := by omega
        have k1 : (n : Int) < (n : Int) + 1 := by omega
        have k4 : (0 : Int) ≤ (n : Int) := by omega
        go_wp2_with fail
        refine wp_region_held_drew (S := fun w' => Kept w6 w') (by kernel_rfl) ((kept_refl w6).drewN 1) (fun hHeld => ?_)
        (refine wpAnyH_take (i := 0) (v := ?_) rfl (by kernel_rfl) (by kernel_rfl) (by kernel_rfl) (fun _ _ _ h => h) (Or.inl ⟨by rfl, ?_⟩) hHeld ?_; rotate_left; (· (intro w' hSw; go_simp; try with_reducible rfl)); (try simp only [List.getElem_toArray, List.getElem_cons_zero, List.getElem_cons_succ, Act.put, List.setIfInBounds_toArray, List.set_cons_zero, List.set_cons_succ])); (refine wpAnyH_take (i := 1) (v := ?_) rfl (by kernel_rfl) (by kernel_rfl) (by kernel_rfl) (fun _ _ _ h => h) (Or.inl ⟨by rfl, ?_⟩) hHeld ?_; rotate_left; (· (intro w' hSw; go_simp; try with_reducible rfl)); (try simp only [List.getElem_toArray, List.getElem_cons_zero, List.getElem_cons_succ, Act.put, List.setIfInBounds_toArray, List.set_cons_zero, List.set_cons_succ])); (refine wpAnyH_take (i := 2) (v := ?_) rfl (by kernel_rfl) (by kernel_rfl) (by kernel_rfl) (fun _ _ _ h => h) (Or.inl ⟨by rfl, ?_⟩) hHeld ?_; rotate_left; (· (intro w' hSw; go_simp; try with_reducible rfl)); (try simp only [List.getElem_toArray, List.getElem_cons_zero, List.getElem_cons_succ, Act.put, List.setIfInBounds_toArray, List.set_cons_zero, List.set_cons_succ])); (refine wpAnyH_take (i := 3) (v := ?_) rfl (by kernel_rfl) (by kernel_rfl) (by kernel_rfl) (fun _ _ _ h => h) (Or.inl ⟨by rfl, ?_⟩) hHeld ?_; rotate_left; (· (intro w' hSw; go_simp; try with_reducible rfl)); (try simp only [List.getElem_toArray, List.getElem_cons_zero, List.getElem_cons_succ, Act.put, List.setIfInBounds_toArray, List.set_cons_zero, List.set_cons_succ])); (refine wpAnyH_take (i := 8) (v := ?_) rfl (by kernel_rfl) (by kernel_rfl) (by kernel_rfl) (fun _ _ _ h => h) (Or.inl ⟨by rfl, ?_⟩) hHeld ?_; rotate_left; (· (intro w' hSw; go_simp; try with_reducible rfl)); (try simp only [List.getElem_toArray, List.getElem_cons_zero, List.getElem_cons_succ, Act.put, List.setIfInBounds_toArray, List.set_cons_zero, List.set_cons_succ])); (refine wpAnyH_take (i := 9) (v := ?_) rfl (by kernel_rfl) (by kernel_rfl) (by kernel_rfl) (fun _ _ _ h => h) (Or.inl ⟨by rfl, ?_⟩) hHeld ?_; rotate_left; (· (intro w' hSw; go_simp; try with_reducible rfl)); (try simp only [List.getElem_toArray, List.getElem_cons_zero, List.getElem_cons_succ, Act.put, List.setIfInBounds_toArray, List.set_cons_zero, List.set_cons_succ])); (refine wpAnyH_take (i := 4) (v := ?_) rfl (by kernel_rfl) (by kernel_rfl) (by kernel_rfl) (fun _ _ _ h => h) (Or.inl ⟨by rfl, ?_⟩) hHeld ?_; rotate_left; (· (intro w' hSw; go_simp; try with_reducible rfl)); (try simp only [List.getElem_toArray, List.getElem_cons_zero, List.getElem_cons_succ, Act.put, List.setIfInBounds_toArray, List.set_cons_zero, List.set_cons_succ])); (refine wpAnyH_take (i := 10) (v := ?_) rfl (by kernel_rfl) (by kernel_rfl) (by kernel_rfl) (fun _ _ _ h => h) (Or.inl ⟨by rfl, ?_⟩) hHeld ?_; rotate_left; (· (intro w' hSw; go_simp; try with_reducible rfl)); (try simp only [List.getElem_toArray, List.getElem_cons_zero, List.getElem_cons_succ, Act.put, List.setIfInBounds_toArray, List.set_cons_zero, List.set_cons_succ])); (refine wpAnyH_take (i := 5) (v := ?_) rfl (by kernel_rfl) (by kernel_rfl) (by kernel_rfl) (fun _ _ _ h => h) (Or.inl ⟨by rfl, ?_⟩) hHeld ?_; rotate_left; (· (intro w' hSw; go_simp; try with_reducible rfl)); (try simp only [List.getElem_toArray, List.getElem_cons_zero, List.getElem_cons_succ, Act.put, List.setIfInBounds_toArray, List.set_cons_zero, List.set_cons_succ])); (refine wpAnyH_take (i := 11) (v := ?_) rfl (by kernel_rfl) (by kernel_rfl) (by kernel_rfl) (fun _ _ _ h => h) (Or.inl ⟨by rfl, ?_⟩) hHeld ?_; rotate_left; (· (intro w' hSw; go_simp; try with_reducible rfl)); (try simp only [List.getElem_toArray, List.getElem_cons_zero, List.getElem_cons_succ, Act.put, List.setIfInBounds_toArray, List.set_cons_zero, List.set_cons_succ])); (refine wpAnyH_take (i := 6) (v := ?_) rfl (by kernel_rfl) (by kernel_rfl) (by kernel_rfl) (fun _ _ _ h => h) (Or.inl ⟨by rfl, ?_⟩) hHeld ?_; rotate_left; (· (intro w' hSw; go_simp; try with_reducible rfl)); (try simp only [List.getElem_toArray, List.getElem_cons_zero, List.getElem_cons_succ, Act.put, List.setIfInBounds_toArray, List.set_cons_zero, List.set_cons_succ])); (refine wpAnyH_take (i := 12) (v := ?_) rfl (by kernel_rfl) (by kernel_rfl) (by kernel_rfl) (fun _ _ _ h => h) (Or.inl ⟨by rfl, ?_⟩) hHeld ?_; rotate_left; (· (intro w' hSw; go_simp; try with_reducible rfl)); (try simp only [List.getElem_toArray, List.getElem_cons_zero, List.getElem_cons_succ, Act.put, List.setIfInBounds_toArray, List.set_cons_zero, List.set_cons_succ]))
        (refine wpAnyH_take (i := 7) (v := _) rfl (by kernel_rfl) (by kernel_rfl) (by kernel_rfl) (fun _ _ _ h => h) (yieldsIf_load_mid (by rfl) 30 _ rfl _ _ rfl (ints O) _ (fun w' hSw => RZ.out w' hSw) Try.underlying30 rfl (hiO)) hHeld ?_; (try simp only [List.getElem_toArray, List.getElem_cons_zero, List.getElem_cons_succ, Act.put, List.setIfInBounds_toArray, List.set_cons_zero, List.set_cons_succ]))
        (refine wpAnyH_take (i := 13) (v := _) rfl (by kernel_rfl) (by kernel_rfl) (by kernel_rfl) (fun _ _ _ h => h) (yieldsIf_load_mid (by rfl) 30 _ rfl _ _ rfl (ints R) _ (fun w' hSw => RU.out w' hSw) Try.underlying30 rfl (hiR)) hHeld ?_; (try simp only [List.getElem_toArray, List.getElem_cons_zero, List.getElem_cons_succ, Act.put, List.setIfInBounds_toArray, List.set_cons_zero, List.set_cons_succ]))
        (refine wpAnyH_take (i := 14) (v := .bool (decide (O = R))) rfl (by kernel_rfl) (by kernel_rfl) (by kernel_rfl) (fun _ _ _ h => h) (Or.inl ⟨by rfl, fun w' hSw => eql_run _ _ _ _ _ _ rfl _ _ rfl rfl HM.out EQ.out⟩) hHeld ?_; (try simp only [List.getElem_toArray, List.getElem_cons_zero, List.getElem_cons_succ, Act.put, List.setIfInBounds_toArray, List.set_cons_zero, List.set_cons_succ]))
        (refine wpAnyH_take (i := 15) (v := ?_) rfl (by kernel_rfl) (by kernel_rfl) (by kernel_rfl) (fun _ _ _ h => h) (Or.inl ⟨by rfl, ?_⟩) hHeld ?_; rotate_left; (· (intro w' hSw; go_simp; try with_reducible rfl)); (try simp only [List.getElem_toArray, List.getElem_cons_zero, List.getElem_cons_succ, Act.put, List.setIfInBounds_toArray, List.set_cons_zero, List.set_cons_succ])); (refine wpAnyH_take (i := 16) (v := ?_) rfl (by kernel_rfl) (by kernel_rfl) (by kernel_rfl) (fun _ _ _ h => h) (Or.inl ⟨by rfl, ?_⟩) hHeld ?_; rotate_left; (· (intro w' hSw; go_simp; try with_reducible rfl)); (try simp only [List.getElem_toArray, List.getElem_cons_zero, List.getElem_cons_succ, Act.put, List.setIfInBounds_toArray, List.set_cons_zero, List.set_cons_succ])); (refine wpAnyH_take (i := 17) (v := ?_) rfl (by kernel_rfl) (by kernel_rfl) (by kernel_rfl) (fun _ _ _ h => h) (Or.inl ⟨by rfl, ?_⟩) hHeld ?_; rotate_left; (· (intro w' hSw; go_simp; try with_reducible rfl)); (try simp only [List.getElem_toArray, List.getElem_cons_zero, List.getElem_cons_succ, Act.put, List.setIfInBounds_toArray, List.set_cons_zero, List.set_cons_succ]))
        refine wpAnyH_done (by kernel_rfl) ?_ _
        replace K9 := Lib.hid (K9.out.call hHeld)
        clear hHeld
        go_wp2_with fail
        go_ret2
        exact ⟨by rw [EO.out, EF.out]; rfl, K9.out⟩
    · have EO := Lib.hid (cs_out (ns := ns) (fs := fs) hk)
      have EA := Lib.hid (csA_no (cs_out (ns := ns) (fs := fs) hk))
      have KD : Hid (decide ((0 : Int) ≤ k ∧ k ≤ (n : Int) - 2) = false) := Lib.hid (decide_eq_false (by omega))
      clear hok hk q1
      go_wp2_with fail
      refine (l1In_any _ _ _ _).mono ?_
      rintro e w' ⟨rfl, rfl⟩
      rw [KD.out]
      go_wp2_with fail
      go_ret2
      exact ⟨by rw [EO.out, EA.out]; rfl, HB.out⟩
end Go.Proofs.Ytalngdccjoafhab.base
