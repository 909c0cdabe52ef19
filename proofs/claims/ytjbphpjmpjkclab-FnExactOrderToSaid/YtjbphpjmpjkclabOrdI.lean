/-
  The first order that takes a rack to another one, on the program's side, walked.
-/
import Derived.Test.YtjbphpjmpjkclabOrdM
import Derived.Test.YtjbphpjmpjkclabContains
import Derived.Test.YtjbphpjmpjkclabEqR
import Derived.Test.YtjbphpjmpjkclabSixW
namespace Go.Proofs.Ytjbphpjmpjkclab.base
open Go.ChangeShapes Go.WideShapes Go.ChangeAt Go.RowKit
set_option linter.unusedVariables false
set_option linter.unusedSimpArgs false

theorem build6o (w : World) : (Instr.build 26 #[]).run Try.prog w = .ok (.agg (ints z6x).toArray) w := by kernel_rfl
theorem neq_is_run {P : Program} (ev : Operand → Value) (o : Oper) (T T2 : TypeId) (x y : Operand) (ho : o.op = .binOp .neq T x y T2) (xs ys : List Int) (hx : ev x = .agg (ints xs).toArray) (hy : ev y = .agg (ints ys).toArray)
    (hm : P.eqGuardType P.depth T = false) (hq : ∀ w, (Op.equalIn 10000 T (.agg (ints xs).toArray) (.agg (ints ys).toArray)).run P w = .ok (decide (xs = ys)) w) (b : Bool) (hb : (!decide (xs = ys)) = b) {w : World} :
    (execOp ev o).run P w = .ok (.value (.bool b)) w := by
  rw [← hb]; exact neq_run ev o T T2 x y ho xs ys hx hy hm hq
section
variable {P : Program} {ops : Array Oper} {rest : List Oper} {op : Oper} {a : Act} {w : World} {Q : Exit → Act → World → Prop}
theorem arrayAt_law (hw : Region.wanted op (yielded ops a.tmps) = true) (T e : TypeId) (n : Nat) (x : Operand) (ho : op.op = .sliceToArrayPointer T x) (hT : P.underlying T = some (.array n e)) (ad : Option Addr) (cap : Nat) (hx : a.eval x = .slice ad n cap)
    (h : wpList P ops Q rest (a.put op.dst (.pointer ad)) w) : wpList P ops Q (op :: rest) a w :=
  wpList_wanted hw fun _ hK => by
    unfold Oper.wp execOp
    simp only [ho, hx, Instr.arrayAt, Sem.run_bind, run_underlying hT, Result.andThen_ok, Sem.run_pure, Nat.lt_irrefl, if_false]
    exact hK _ _ h
end
/-- Where the first place fits, it is the first. -/
theorem fstFrom_is (a : List Int) (os : List Nat) (t : List Int) (q : Nat) (hq : q < 6) (hf : fits a os t q = true) (hn : ∀ j, j < q → fits a os t j = false) : fstAt a os t = q := by
  rcases fstAt_spec a os t with ⟨h1, h2⟩ | ⟨h1, h2, h3⟩
  · have := h2 q hq
    rw [hf] at this; cases this
  · rcases Nat.lt_trichotomy (fstAt a os t) q with g | g | g
    · have := hn _ g
      rw [h2] at this; cases this
    · exact g
    · have := h3 q g
      rw [hf] at this; cases this
theorem fstFrom_none (a : List Int) (os : List Nat) (t : List Int) (hn : ∀ j, j < 6 → fits a os t j = false) : fstAt a os t = 6 := by
  rcases fstAt_spec a os t with ⟨h1, _⟩ | ⟨h1, h2, _⟩
  · exact h1
  · have := hn _ h1
    rw [h2] at this; cases this
theorem fits_yes {a : List Int} {os : List Nat} {t : List Int} {q : Nat} (h1 : tub a q = t) (h2 : ¬ q ∈ os) : fits a os t q = true := by
  unfold fits; rw [decide_eq_true h1, decide_eq_false h2]; rfl
theorem fits_no1 {a : List Int} {os : List Nat} {t : List Int} {q : Nat} (h1 : ¬ tub a q = t) : fits a os t q = false := by
  unfold fits; rw [decide_eq_false h1]; rfl
theorem fits_no2 {a : List Int} {os : List Nat} {t : List Int} {q : Nat} (h2 : q ∈ os) : fits a os t q = false := by
  unfold fits; rw [decide_eq_true h2]; simp
theorem below_succ {a : List Int} {os : List Nat} {t : List Int} {q : Nat} (h : ∀ j, j < q → fits a os t j = false) (hq : fits a os t q = false) : ∀ j, j < q + 1 → fits a os t j = false := fun j hj => by
  by_cases e : j = q
  · exact e ▸ hq
  · exact h j (by omega)
theorem ordTo_last {a b : List Int} {k : Nat} (hk : k < 6) {os : List Nat} (ho : ordTo a b k = some os) (h : fstAt a os (tub b k) = 6) : ordTo a b 6 = none := by
  have e : ordTo a b (k + 1) = none := by rw [ordTo_succ ho, if_pos h]
  have up : ∀ d, k + 1 + d ≤ 6 → ordTo a b (k + 1 + d) = none := by
    intro d
    induction d with
    | zero => intro _; exact e
    | succ d ih => intro hd; exact ordTo_none (ih (by omega))
  have := up (6 - (k + 1)) (by omega)
  rwa [show k + 1 + (6 - (k + 1)) = 6 by omega] at this
theorem toOk_none {a b : List Int} (ha : a.length = 24) (hb : b.length = 24) (h : ordTo a b 6 = none) : toOk a b = false := by
  cases hc : toOk a b with
  | false => rfl
  | true =>
    unfold toOk at hc
    have hf := of_decide_eq_true (Bool.and_eq_true_iff.1 hc).2
    obtain ⟨os, ho⟩ := ordTo_some ha hb hf 6 (Nat.le_refl _)
    rw [ho] at h; cases h
theorem toR_no {a b : List Int} (h : toOk a b = false) : toR a b = z6x := by unfold toR; rw [h]; rfl
theorem toOk_not {a b : List Int} (h : ¬ (vR a = true ∧ vR b = true)) : toOk a b = false := by
  cases hc : toOk a b with
  | false => rfl
  | true => unfold toOk at hc; exact absurd (Bool.and_eq_true_iff.1 (Bool.and_eq_true_iff.1 hc).1) h
theorem toOk_yes {a b : List Int} (ha : a.length = 24) (hb : b.length = 24) (va : vR a = true) (vb : vR b = true) {os : List Nat} (ho : ordTo a b 6 = some os) : toOk a b = true ∧ toR a b = ni os := by
  have h : toOk a b = true := by unfold toOk; rw [va, vb, decide_eq_true (ordTo_form ha hb ho)]; rfl
  exact ⟨h, by unfold toR; rw [if_pos h, ho]; rfl⟩

set_option maxHeartbeats 3200000 in
set_option maxRecDepth 100000 in
theorem implOrderTo (a b : List Int) (w : World) (ha : a.length = 24) (hb : b.length = 24) :
    Calls Try.prog 11 #[row a, row b] w fun e w' => e = .returned (.tuple #[.agg (ints (toR a b)).toArray, .bool (toOk a b)]) ∧ Kept w w' := by
  have HB := Lib.hid ((((kept_refl w).alloc (.cells (ints a).toArray 29)).alloc (.cells (ints b).toArray 29)).alloc (.cells #[.int .i64 0, .int .i64 0, .int .i64 0, .int .i64 0, .int .i64 0, .int .i64 0] 26))
  have H := ((Has.box w 29 ha (by omega)).alloc (.cells (ints b).toArray 29)).alloc (.cells #[.int .i64 0, .int .i64 0, .int .i64 0, .int .i64 0, .int .i64 0, .int .i64 0] 26)
  have G := ((Has.box (w.alloc (.cells (ints a).toArray 29)) 29 hb (by omega)).at (size1 _ _)).alloc (.cells #[.int .i64 0, .int .i64 0, .int .i64 0, .int .i64 0, .int .i64 0, .int .i64 0] 26)
  have Z := (Has.zero6x ((w.alloc (.cells (ints a).toArray 29)).alloc (.cells (ints b).toArray 29)) 26).at (c := w.heap.size + 1 + 1) (by simp)
  have hz : z6x.length = 6 := rfl
  rw [row_ints, row_ints]
  go_enter Try.func11, Try.ntmps11
  go_wp2_with (refine load_has rfl 29 _ rfl _ rfl ?_ 24 ?_ _ Try.underlying29 rfl ?_ ?_; rotate_left; (· (repeat (first | (with_reducible assumption) | ((with_reducible refine Has.box _ _ ?_ ?_) <;> (first | assumption | decide)) | (with_reducible refine Has.alloc ?_ _) | ((with_reducible refine Has.putOther ?_ _ _ ?_); rotate_left; omega; skip) | ((with_reducible refine Has.below ?_ ?_); rotate_left; assumption)))); (· kernel_rfl))
  refine (isRack_any a _ ha).mono ?_
  rintro e w1 ⟨rfl, b1⟩
  replace H := H.below b1
  replace G := G.below b1
  replace Z := Z.below b1
  replace HB := Lib.hid (HB.out.call b1)
  clear b1
  by_cases va : vR a = true
  · rw [va]
    have VA := Lib.hid va
    clear va
    go_wp2_with (refine load_has rfl 29 _ rfl _ rfl ?_ 24 ?_ _ Try.underlying29 rfl ?_ ?_; rotate_left; (· (repeat (first | (with_reducible assumption) | ((with_reducible refine Has.box _ _ ?_ ?_) <;> (first | assumption | decide)) | (with_reducible refine Has.alloc ?_ _) | ((with_reducible refine Has.putOther ?_ _ _ ?_); rotate_left; omega; skip) | ((with_reducible refine Has.below ?_ ?_); rotate_left; assumption)))); (· kernel_rfl))
    refine (isRack_any b _ hb).mono ?_
    rintro e w2 ⟨rfl, b2⟩
    replace H := H.below b2
    replace G := G.below b2
    replace Z := Z.below b2
    replace HB := Lib.hid (HB.out.call b2)
    clear b2
    by_cases vb : vR b = true
    · rw [vb]
      have VB := Lib.hid vb
      have LA := Lib.hid ha
      have LB := Lib.hid hb
      have hlt := Z.lt
      have R0 := Lib.hid ((Gr.none w2 (w.heap.size + 1 + 1 + 1) 3 1 (by omega)).as (ls' := sg []) rfl)
      replace H := H.alloc (.cells #[] 3)
      replace G := G.alloc (.cells #[] 3)
      replace Z := Z.alloc (.cells #[] 3)
      replace HB := Lib.hid (HB.out.alloc (.cells #[] 3))
      clear vb
      go_wp2_with (refine load_has rfl 23 _ rfl _ rfl ?_ 24 ?_ _ Try.underlying23 rfl ?_ ?_; rotate_left; (· (repeat (first | (with_reducible assumption) | ((with_reducible refine Has.box _ _ ?_ ?_) <;> (first | assumption | decide)) | (with_reducible refine Has.alloc ?_ _) | ((with_reducible refine Has.putOther ?_ _ _ ?_); rotate_left; omega; skip) | ((with_reducible refine Has.below ?_ ?_); rotate_left; assumption)))); (· kernel_rfl))
      clear ha hb G
      generalize w2.alloc (.cells #[] 3) = W at *
      generalize w2.heap.size = g0 at *
      go_loopg [6, 22] 6 (fun gk v i wr => ∃ (k g cap : Nat) (os : List Nat), gk = 6 - k ∧ k ≤ 6 ∧ i = .int .i64 k ∧ v = .slice (some ⟨g, 0, none⟩) k cap ∧ os.length = k ∧ Hid (ordTo a b k = some os) ∧ Has wr w.heap.size a 24 ∧ Has wr (w.heap.size + 1 + 1) z6x 6 ∧ Hid (Gr wr (w.heap.size + 1 + 1 + 1) 3 1 (.slice (some ⟨g, 0, none⟩) k cap) (sg os)) ∧ Hid (Kept w wr))
      case atStart => exact ⟨0, g0, 0, [], rfl, by omega, rfl, rfl, rfl, Lib.hid rfl, H, Z, R0, HB⟩
      case round =>
        obtain ⟨k, g, cap, os, rfl, hk, rfl, rfl, hol, GO, GH, GZ, GR, GB⟩ := hrel
        by_cases hk6 : k < 6
        · have hki : (k : Int) < 6 := by omega
          have i0 := indexTub b k hk6
          have h4 := tub_len b k LB.out hk6
          have KH := GH.alloc (.cells (ints (tub b k)).toArray 22)
          have KZ := GZ.alloc (.cells (ints (tub b k)).toArray 22)
          have KR := Lib.hid (GR.out.alloc (.cells (ints (tub b k)).toArray 22))
          have KB := Lib.hid (GB.out.alloc (.cells (ints (tub b k)).toArray 22))
          have KT := Has.box wr 22 h4 (by omega)
          have l2 : (ints (tub b k)).length = 4 := by rw [ints_len]; exact h4
          have hi2 : (Try.prog.info? 22).map (·.size) = some (ints (tub b k)).length := by rw [l2]; kernel_rfl
          have HM : Hid (Try.prog.eqGuardType Try.prog.depth 22 = false) := Lib.hid (by kernel_rfl)
          go_wp2_with (refine store_new rfl 22 _ _ rfl _ _ _ rfl _ rfl _ rfl rfl ?_ ?_ ?_; (· (first | assumption | rfl)); (· kernel_rfl))
          clear i0 GH GZ GR GB
          generalize wr.alloc (.cells (ints (tub b k)).toArray 22) = Wk at *
          generalize wr.heap.size = g8 at *
          go_loopg [9] 6 (fun gk p wq => ∃ q : Nat, gk = 6 - q ∧ q ≤ 6 ∧ p = .int .i64 q ∧ Hid (∀ j, j < q → fits a os (tub b k) j = false) ∧ Has wq w.heap.size a 24 ∧ Has wq (w.heap.size + 1 + 1) z6x 6 ∧ Has wq g8 (tub b k) 4 ∧ Hid (Gr wq (w.heap.size + 1 + 1 + 1) 3 1 (.slice (some ⟨g, 0, none⟩) k cap) (sg os)) ∧ Hid (Kept w wq))
          case atStart => exact ⟨0, rfl, by omega, rfl, Lib.hid (fun j hj => by omega), KH, KZ, KT, KR, KB⟩
          case round =>
            obtain ⟨q, rfl, hq, rfl, QN, QH, QZ, QT, QR, QB⟩ := hrel
            by_cases hq6 : q < 6
            · have hqi : (q : Int) < 6 := by omega
              have s4 := tub_len a q LA.out hq6
              have l1 : (ints (tub a q)).length = 4 := by rw [ints_len]; exact s4
              have hi1 : (Try.prog.info? 22).map (·.size) = some (ints (tub a q)).length := by rw [l1]; kernel_rfl
              have EQ := Lib.hid (eqArr4 (tub a q) (tub b k) s4 h4)
              go_wp2_with fail
              refine wp_region_held_drew (S := fun w' => Has w' w.heap.size a 24 ∧ Has w' (w.heap.size + 1 + 1) z6x 6 ∧ Has w' g8 (tub b k) 4 ∧ Gr w' (w.heap.size + 1 + 1 + 1) 3 1 (.slice (some ⟨g, 0, none⟩) k cap) (sg os) ∧ Kept w w') (by kernel_rfl) ⟨QH.drew, QZ.drew, QT.drew, QR.out.drew, QB.out.drewN 1⟩ (fun hHeld => ?_)
              generalize hWD : World.drew _ = WD at *
              clear hWD
              (refine wpAnyH_take (i := 0) (v := ?_) rfl (by kernel_rfl) (by kernel_rfl) (by kernel_rfl) (fun _ _ _ h => h) (Or.inl ⟨by rfl, ?_⟩) hHeld ?_; rotate_left; (· (intro w' hSw; go_simp; try with_reducible rfl)); (try simp only [List.getElem_toArray, List.getElem_cons_zero, List.getElem_cons_succ, Act.put, List.setIfInBounds_toArray, List.set_cons_zero, List.set_cons_succ])); (refine wpAnyH_take (i := 1) (v := ?_) rfl (by kernel_rfl) (by kernel_rfl) (by kernel_rfl) (fun _ _ _ h => h) (Or.inl ⟨by rfl, ?_⟩) hHeld ?_; rotate_left; (· (intro w' hSw; go_simp; try with_reducible rfl)); (try simp only [List.getElem_toArray, List.getElem_cons_zero, List.getElem_cons_succ, Act.put, List.setIfInBounds_toArray, List.set_cons_zero, List.set_cons_succ])); (refine wpAnyH_take (i := 2) (v := ?_) rfl (by kernel_rfl) (by kernel_rfl) (by kernel_rfl) (fun _ _ _ h => h) (Or.inl ⟨by rfl, ?_⟩) hHeld ?_; rotate_left; (· (intro w' hSw; go_simp; try with_reducible rfl)); (try simp only [List.getElem_toArray, List.getElem_cons_zero, List.getElem_cons_succ, Act.put, List.setIfInBounds_toArray, List.set_cons_zero, List.set_cons_succ])); (refine wpAnyH_take (i := 3) (v := ?_) rfl (by kernel_rfl) (by kernel_rfl) (by kernel_rfl) (fun _ _ _ h => h) (Or.inl ⟨by rfl, ?_⟩) hHeld ?_; rotate_left; (· (intro w' hSw; go_simp; try with_reducible rfl)); (try simp only [List.getElem_toArray, List.getElem_cons_zero, List.getElem_cons_succ, Act.put, List.setIfInBounds_toArray, List.set_cons_zero, List.set_cons_succ])); (refine wpAnyH_take (i := 4) (v := ?_) rfl (by kernel_rfl) (by kernel_rfl) (by kernel_rfl) (fun _ _ _ h => h) (Or.inl ⟨by rfl, ?_⟩) hHeld ?_; rotate_left; (· (intro w' hSw; go_simp; try with_reducible rfl)); (try simp only [List.getElem_toArray, List.getElem_cons_zero, List.getElem_cons_succ, Act.put, List.setIfInBounds_toArray, List.set_cons_zero, List.set_cons_succ])); (refine wpAnyH_take (i := 5) (v := ?_) rfl (by kernel_rfl) (by kernel_rfl) (by kernel_rfl) (fun _ _ _ h => h) (Or.inl ⟨by rfl, ?_⟩) hHeld ?_; rotate_left; (· (intro w' hSw; go_simp; try with_reducible rfl)); (try simp only [List.getElem_toArray, List.getElem_cons_zero, List.getElem_cons_succ, Act.put, List.setIfInBounds_toArray, List.set_cons_zero, List.set_cons_succ]))
              (refine wpAnyH_take (i := 6) (v := _) rfl (by kernel_rfl) (by kernel_rfl) (by kernel_rfl) (fun _ _ _ h => h) (yieldsIf_load_mid (by rfl) 22 _ rfl _ _ rfl (ints (tub a q)) _ (fun w' hSw => hSw.1.holds.sub (q * 4) 4) Try.underlying22 rfl (hi1)) hHeld ?_; (try simp only [List.getElem_toArray, List.getElem_cons_zero, List.getElem_cons_succ, Act.put, List.setIfInBounds_toArray, List.set_cons_zero, List.set_cons_succ]))
              (refine wpAnyH_take (i := 7) (v := _) rfl (by kernel_rfl) (by kernel_rfl) (by kernel_rfl) (fun _ _ _ h => h) (yieldsIf_load_mid (by rfl) 22 _ rfl _ _ rfl (ints (tub b k)) _ (fun w' hSw => hSw.2.2.1.holds.range) Try.underlying22 rfl (hi2)) hHeld ?_; (try simp only [List.getElem_toArray, List.getElem_cons_zero, List.getElem_cons_succ, Act.put, List.setIfInBounds_toArray, List.set_cons_zero, List.set_cons_succ]))
              clear QH QZ QT QR QB
              by_cases e : tub a q = tub b k
              · have E := Lib.hid (show (!decide (tub a q = tub b k)) = false by rw [decide_eq_true e]; rfl)
                refine wpAnyH_take (i := 8) (v := .bool false) rfl (by kernel_rfl) (by kernel_rfl) (by kernel_rfl) (fun _ _ _ h => h) (Or.inl ⟨by rfl, fun w' hSw => neq_is_run _ _ _ _ _ _ rfl _ _ rfl rfl HM.out EQ.out false E.out⟩) hHeld ?_
                (try simp only [List.getElem_toArray, List.getElem_cons_zero, List.getElem_cons_succ, Act.put, List.setIfInBounds_toArray, List.set_cons_zero, List.set_cons_succ])
                (refine wpAnyH_take (i := 9) (v := ?_) rfl (by kernel_rfl) (by kernel_rfl) (by kernel_rfl) (fun _ _ _ h => h) (Or.inl ⟨by rfl, ?_⟩) hHeld ?_; rotate_left; (· (intro w' hSw; go_simp; try with_reducible rfl)); (try simp only [List.getElem_toArray, List.getElem_cons_zero, List.getElem_cons_succ, Act.put, List.setIfInBounds_toArray, List.set_cons_zero, List.set_cons_succ])); (refine wpAnyH_take (i := 10) (v := ?_) rfl (by kernel_rfl) (by kernel_rfl) (by kernel_rfl) (fun _ _ _ h => h) (Or.inl ⟨by rfl, ?_⟩) hHeld ?_; rotate_left; (· (intro w' hSw; go_simp; try with_reducible rfl)); (try simp only [List.getElem_toArray, List.getElem_cons_zero, List.getElem_cons_succ, Act.put, List.setIfInBounds_toArray, List.set_cons_zero, List.set_cons_succ])); (refine wpAnyH_take (i := 11) (v := ?_) rfl (by kernel_rfl) (by kernel_rfl) (by kernel_rfl) (fun _ _ _ h => h) (Or.inl ⟨by rfl, ?_⟩) hHeld ?_; rotate_left; (· (intro w' hSw; go_simp; try with_reducible rfl)); (try simp only [List.getElem_toArray, List.getElem_cons_zero, List.getElem_cons_succ, Act.put, List.setIfInBounds_toArray, List.set_cons_zero, List.set_cons_succ]))
                (refine wpAnyH_ready (rs := [12]) (by kernel_rfl) (by simp) ?_; refine AllReadyH.cons (o := _) rfl (fun K hK => ?_) AllReadyH.nil; (simp only [List.getElem_toArray, List.getElem_cons_zero, List.getElem_cons_succ, Region.wanted, if_true]))
                go_simp
                refine (sContains_any g 0 k cap (ni os) (q : Int) _ (by rw [ni_len]; exact hol) (by omega) (hHeld.2.2.2.1.nums hol.symm)).mono ?_
                rintro e w4 ⟨rfl, rfl⟩
                dsimp only
                (try simp only [List.getElem_toArray, List.getElem_cons_zero, List.getElem_cons_succ, Act.put, List.setIfInBounds_toArray, List.set_cons_zero, List.set_cons_succ])
                refine hK.out _ _ hHeld (fun hHeld => ?_)
                clear hK K
                by_cases hm : q ∈ os
                · rw [decide_eq_true ((mem_ni os q).2 hm)]
                  (refine wpAnyH_take (i := 13) (v := ?_) rfl (by kernel_rfl) (by kernel_rfl) (by kernel_rfl) (fun _ _ _ h => h) (Or.inl ⟨by rfl, ?_⟩) hHeld ?_; rotate_left; (· (intro w' hSw; go_simp; try with_reducible rfl)); (try simp only [List.getElem_toArray, List.getElem_cons_zero, List.getElem_cons_succ, Act.put, List.setIfInBounds_toArray, List.set_cons_zero, List.set_cons_succ])); (refine wpAnyH_take (i := 14) (v := ?_) rfl (by kernel_rfl) (by kernel_rfl) (by kernel_rfl) (fun _ _ _ h => h) (Or.inl ⟨by rfl, ?_⟩) hHeld ?_; rotate_left; (· (intro w' hSw; go_simp; try with_reducible rfl)); (try simp only [List.getElem_toArray, List.getElem_cons_zero, List.getElem_cons_succ, Act.put, List.setIfInBounds_toArray, List.set_cons_zero, List.set_cons_succ]))
                  refine wpAnyH_done (by kernel_rfl) ?_ _
                  have N2 := Lib.hid (below_succ QN.out (fits_no2 hm))
                  obtain ⟨D1, D2, D3, D4, D5⟩ := hHeld
                  replace D4 := Lib.hid D4
                  replace D5 := Lib.hid D5
                  clear hm e E EQ hi1 l1
                  go_wp2_with fail
                  go_roundg (6 - (q + 1))
                  case rel => exact ⟨q + 1, rfl, by omega, by go_num, N2, D1, D2, D3, D4, D5⟩
                  case measure => omega
                · rw [decide_eq_false (fun h => hm ((mem_ni os q).1 h))]
                  (refine wpAnyH_take (i := 13) (v := ?_) rfl (by kernel_rfl) (by kernel_rfl) (by kernel_rfl) (fun _ _ _ h => h) (Or.inl ⟨by rfl, ?_⟩) hHeld ?_; rotate_left; (· (intro w' hSw; go_simp; try with_reducible rfl)); (try simp only [List.getElem_toArray, List.getElem_cons_zero, List.getElem_cons_succ, Act.put, List.setIfInBounds_toArray, List.set_cons_zero, List.set_cons_succ])); (refine wpAnyH_take (i := 14) (v := ?_) rfl (by kernel_rfl) (by kernel_rfl) (by kernel_rfl) (fun _ _ _ h => h) (Or.inl ⟨by rfl, ?_⟩) hHeld ?_; rotate_left; (· (intro w' hSw; go_simp; try with_reducible rfl)); (try simp only [List.getElem_toArray, List.getElem_cons_zero, List.getElem_cons_succ, Act.put, List.setIfInBounds_toArray, List.set_cons_zero, List.set_cons_succ]))
                  refine wpAnyH_done (by kernel_rfl) ?_ _
                  have F := fstFrom_is a os (tub b k) q hq6 (fits_yes e hm) QN.out
                  have O2 := Lib.hid (show ordTo a b (k + 1) = some (os ++ [q]) by rw [ordTo_succ GO.out, F, if_neg (by omega)])
                  obtain ⟨D1, D2, D3, D4, D5⟩ := hHeld
                  replace D4 := Lib.hid D4
                  replace D5 := Lib.hid D5
                  have hq6' : ((q : Int) == 6) = false := by simp; omega
                  clear hm e E EQ hi1 l1 F
                  go_wp2_with (at_builtin; refine append_gr rfl _ _ 45 rfl (w.heap.size + 1 + 1 + 1) 3 1 8 Try.underlying45 (by kernel_rfl) (by omega) (by omega) _ k (sg os) (by rw [sg_len, hol]) rfl (D4.out.alloc _) _ 1 rfl [(q : Int)] (Has.box (ns := [(q : Int)]) (n := 1) _ 3 rfl (by omega)) (by have := D5.out.size; have := D2.lt; simp; omega) (by omega) ?_; intro g' cap' w5 hG hgrow hlie hlt5)
                  have hgg := (D4.out.own g rfl).1
                  have E1 := (D1.alloc (.cells #[.int .i64 (q : Int)] 3)).grownNo hgrow (fun e => by have e := Option.some.inj (show some _ = some g from e); omega)
                  have E2 := (D2.alloc (.cells #[.int .i64 (q : Int)] 3)).grownNo hgrow (fun e => by have e := Option.some.inj (show some _ = some g from e); omega)
                  have E5 := Lib.hid ((D5.out.alloc (.cells #[.int .i64 (q : Int)] 3)).grown hgrow (D5.out.alloc (.cells #[.int .i64 (q : Int)] 3)).size (fun j hj => by have hj := Option.some.inj (show some g = some j from hj); omega))
                  have E4 := Lib.hid (hG.as (sg_app os q).symm)
                  have hol2 : (os ++ [q]).length = k + 1 := by simp [hol]
                  clear hG hgrow hlie hlt5 D1 D2 D4 D5
                  go_wp2_with fail
                  go_roundg (6 - (k + 1))
                  case rel => exact ⟨k + 1, g', cap', os ++ [q], rfl, by omega, by go_num, rfl, hol2, O2, E1, E2, E4, E5⟩
                  case measure => omega
              · have E := Lib.hid (show (!decide (tub a q = tub b k)) = true by rw [decide_eq_false e]; rfl)
                refine wpAnyH_take (i := 8) (v := .bool true) rfl (by kernel_rfl) (by kernel_rfl) (by kernel_rfl) (fun _ _ _ h => h) (Or.inl ⟨by rfl, fun w' hSw => neq_is_run _ _ _ _ _ _ rfl _ _ rfl rfl HM.out EQ.out true E.out⟩) hHeld ?_
                (try simp only [List.getElem_toArray, List.getElem_cons_zero, List.getElem_cons_succ, Act.put, List.setIfInBounds_toArray, List.set_cons_zero, List.set_cons_succ])
                (refine wpAnyH_take (i := 9) (v := ?_) rfl (by kernel_rfl) (by kernel_rfl) (by kernel_rfl) (fun _ _ _ h => h) (Or.inl ⟨by rfl, ?_⟩) hHeld ?_; rotate_left; (· (intro w' hSw; go_simp; try with_reducible rfl)); (try simp only [List.getElem_toArray, List.getElem_cons_zero, List.getElem_cons_succ, Act.put, List.setIfInBounds_toArray, List.set_cons_zero, List.set_cons_succ]))
                (refine wpAnyH_take (i := 10) (v := undef) rfl (by kernel_rfl) (by kernel_rfl) (by kernel_rfl) (fun _ _ _ h => h) (Or.inr ⟨by rfl, rfl⟩) hHeld ?_; (try simp only [List.getElem_toArray, List.getElem_cons_zero, List.getElem_cons_succ, Act.put, List.setIfInBounds_toArray, List.set_cons_zero, List.set_cons_succ])); (refine wpAnyH_take (i := 11) (v := undef) rfl (by kernel_rfl) (by kernel_rfl) (by kernel_rfl) (fun _ _ _ h => h) (Or.inr ⟨by rfl, rfl⟩) hHeld ?_; (try simp only [List.getElem_toArray, List.getElem_cons_zero, List.getElem_cons_succ, Act.put, List.setIfInBounds_toArray, List.set_cons_zero, List.set_cons_succ]))
                (refine wpAnyH_ready (rs := [12]) (by kernel_rfl) (by simp) ?_; refine AllReadyH.cons (o := _) rfl (fun K hK => ?_) AllReadyH.nil; (simp only [List.getElem_toArray, List.getElem_cons_zero, List.getElem_cons_succ, Region.wanted, Bool.false_eq_true, if_false]))
                refine hK.out _ _ hHeld (fun hHeld => ?_)
                clear hK K
                (refine wpAnyH_take (i := 13) (v := ?_) rfl (by kernel_rfl) (by kernel_rfl) (by kernel_rfl) (fun _ _ _ h => h) (Or.inl ⟨by rfl, ?_⟩) hHeld ?_; rotate_left; (· (intro w' hSw; go_simp; try with_reducible rfl)); (try simp only [List.getElem_toArray, List.getElem_cons_zero, List.getElem_cons_succ, Act.put, List.setIfInBounds_toArray, List.set_cons_zero, List.set_cons_succ])); (refine wpAnyH_take (i := 14) (v := ?_) rfl (by kernel_rfl) (by kernel_rfl) (by kernel_rfl) (fun _ _ _ h => h) (Or.inl ⟨by rfl, ?_⟩) hHeld ?_; rotate_left; (· (intro w' hSw; go_simp; try with_reducible rfl)); (try simp only [List.getElem_toArray, List.getElem_cons_zero, List.getElem_cons_succ, Act.put, List.setIfInBounds_toArray, List.set_cons_zero, List.set_cons_succ]))
                refine wpAnyH_done (by kernel_rfl) ?_ _
                have N2 := Lib.hid (below_succ QN.out (fits_no1 e))
                obtain ⟨D1, D2, D3, D4, D5⟩ := hHeld
                replace D4 := Lib.hid D4
                replace D5 := Lib.hid D5
                clear e E EQ hi1 l1
                go_wp2_with fail
                go_roundg (6 - (q + 1))
                case rel => exact ⟨q + 1, rfl, by omega, by go_num, N2, D1, D2, D3, D4, D5⟩
                case measure => omega
            · obtain rfl : q = 6 := by omega
              go_wp2_with fail
              refine wp_region_held_drew (S := fun w' => Has w' w.heap.size a 24 ∧ Has w' (w.heap.size + 1 + 1) z6x 6 ∧ Has w' g8 (tub b k) 4 ∧ Gr w' (w.heap.size + 1 + 1 + 1) 3 1 (.slice (some ⟨g, 0, none⟩) k cap) (sg os) ∧ Kept w w') (by kernel_rfl) ⟨QH.drew, QZ.drew, QT.drew, QR.out.drew, QB.out.drewN 1⟩ (fun hHeld => ?_)
              generalize hWD : World.drew _ = WD at *
              clear hWD
              (refine wpAnyH_take (i := 0) (v := ?_) rfl (by kernel_rfl) (by kernel_rfl) (by kernel_rfl) (fun _ _ _ h => h) (Or.inl ⟨by rfl, ?_⟩) hHeld ?_; rotate_left; (· (intro w' hSw; go_simp; try with_reducible rfl)); (try simp only [List.getElem_toArray, List.getElem_cons_zero, List.getElem_cons_succ, Act.put, List.setIfInBounds_toArray, List.set_cons_zero, List.set_cons_succ])); (refine wpAnyH_take (i := 1) (v := ?_) rfl (by kernel_rfl) (by kernel_rfl) (by kernel_rfl) (fun _ _ _ h => h) (Or.inl ⟨by rfl, ?_⟩) hHeld ?_; rotate_left; (· (intro w' hSw; go_simp; try with_reducible rfl)); (try simp only [List.getElem_toArray, List.getElem_cons_zero, List.getElem_cons_succ, Act.put, List.setIfInBounds_toArray, List.set_cons_zero, List.set_cons_succ])); (refine wpAnyH_take (i := 2) (v := ?_) rfl (by kernel_rfl) (by kernel_rfl) (by kernel_rfl) (fun _ _ _ h => h) (Or.inl ⟨by rfl, ?_⟩) hHeld ?_; rotate_left; (· (intro w' hSw; go_simp; try with_reducible rfl)); (try simp only [List.getElem_toArray, List.getElem_cons_zero, List.getElem_cons_succ, Act.put, List.setIfInBounds_toArray, List.set_cons_zero, List.set_cons_succ]))
              (refine wpAnyH_take (i := 3) (v := undef) rfl (by kernel_rfl) (by kernel_rfl) (by kernel_rfl) (fun _ _ _ h => h) (Or.inr ⟨by rfl, rfl⟩) hHeld ?_; (try simp only [List.getElem_toArray, List.getElem_cons_zero, List.getElem_cons_succ, Act.put, List.setIfInBounds_toArray, List.set_cons_zero, List.set_cons_succ])); (refine wpAnyH_take (i := 4) (v := undef) rfl (by kernel_rfl) (by kernel_rfl) (by kernel_rfl) (fun _ _ _ h => h) (Or.inr ⟨by rfl, rfl⟩) hHeld ?_; (try simp only [List.getElem_toArray, List.getElem_cons_zero, List.getElem_cons_succ, Act.put, List.setIfInBounds_toArray, List.set_cons_zero, List.set_cons_succ])); (refine wpAnyH_take (i := 5) (v := undef) rfl (by kernel_rfl) (by kernel_rfl) (by kernel_rfl) (fun _ _ _ h => h) (Or.inr ⟨by rfl, rfl⟩) hHeld ?_; (try simp only [List.getElem_toArray, List.getElem_cons_zero, List.getElem_cons_succ, Act.put, List.setIfInBounds_toArray, List.set_cons_zero, List.set_cons_succ])); (refine wpAnyH_take (i := 6) (v := undef) rfl (by kernel_rfl) (by kernel_rfl) (by kernel_rfl) (fun _ _ _ h => h) (Or.inr ⟨by rfl, rfl⟩) hHeld ?_; (try simp only [List.getElem_toArray, List.getElem_cons_zero, List.getElem_cons_succ, Act.put, List.setIfInBounds_toArray, List.set_cons_zero, List.set_cons_succ])); (refine wpAnyH_take (i := 7) (v := undef) rfl (by kernel_rfl) (by kernel_rfl) (by kernel_rfl) (fun _ _ _ h => h) (Or.inr ⟨by rfl, rfl⟩) hHeld ?_; (try simp only [List.getElem_toArray, List.getElem_cons_zero, List.getElem_cons_succ, Act.put, List.setIfInBounds_toArray, List.set_cons_zero, List.set_cons_succ])); (refine wpAnyH_take (i := 8) (v := undef) rfl (by kernel_rfl) (by kernel_rfl) (by kernel_rfl) (fun _ _ _ h => h) (Or.inr ⟨by rfl, rfl⟩) hHeld ?_; (try simp only [List.getElem_toArray, List.getElem_cons_zero, List.getElem_cons_succ, Act.put, List.setIfInBounds_toArray, List.set_cons_zero, List.set_cons_succ])); (refine wpAnyH_take (i := 9) (v := undef) rfl (by kernel_rfl) (by kernel_rfl) (by kernel_rfl) (fun _ _ _ h => h) (Or.inr ⟨by rfl, rfl⟩) hHeld ?_; (try simp only [List.getElem_toArray, List.getElem_cons_zero, List.getElem_cons_succ, Act.put, List.setIfInBounds_toArray, List.set_cons_zero, List.set_cons_succ])); (refine wpAnyH_take (i := 10) (v := undef) rfl (by kernel_rfl) (by kernel_rfl) (by kernel_rfl) (fun _ _ _ h => h) (Or.inr ⟨by rfl, rfl⟩) hHeld ?_; (try simp only [List.getElem_toArray, List.getElem_cons_zero, List.getElem_cons_succ, Act.put, List.setIfInBounds_toArray, List.set_cons_zero, List.set_cons_succ])); (refine wpAnyH_take (i := 11) (v := undef) rfl (by kernel_rfl) (by kernel_rfl) (by kernel_rfl) (fun _ _ _ h => h) (Or.inr ⟨by rfl, rfl⟩) hHeld ?_; (try simp only [List.getElem_toArray, List.getElem_cons_zero, List.getElem_cons_succ, Act.put, List.setIfInBounds_toArray, List.set_cons_zero, List.set_cons_succ]))
              (refine wpAnyH_ready (rs := [12]) (by kernel_rfl) (by simp) ?_; refine AllReadyH.cons (o := _) rfl (fun K hK => ?_) AllReadyH.nil; (simp only [List.getElem_toArray, List.getElem_cons_zero, List.getElem_cons_succ, Region.wanted, Bool.false_eq_true, if_false]))
              refine hK.out _ _ hHeld (fun hHeld => ?_)
              clear hK K
              (refine wpAnyH_take (i := 13) (v := undef) rfl (by kernel_rfl) (by kernel_rfl) (by kernel_rfl) (fun _ _ _ h => h) (Or.inr ⟨by rfl, rfl⟩) hHeld ?_; (try simp only [List.getElem_toArray, List.getElem_cons_zero, List.getElem_cons_succ, Act.put, List.setIfInBounds_toArray, List.set_cons_zero, List.set_cons_succ]))
              (refine wpAnyH_take (i := 14) (v := ?_) rfl (by kernel_rfl) (by kernel_rfl) (by kernel_rfl) (fun _ _ _ h => h) (Or.inl ⟨by rfl, ?_⟩) hHeld ?_; rotate_left; (· (intro w' hSw; go_simp; try with_reducible rfl)); (try simp only [List.getElem_toArray, List.getElem_cons_zero, List.getElem_cons_succ, Act.put, List.setIfInBounds_toArray, List.set_cons_zero, List.set_cons_succ]))
              refine wpAnyH_done (by kernel_rfl) ?_ _
              have V := Lib.hid (toOk_none LA.out LB.out (ordTo_last hk6 GO.out (fstFrom_none a os (tub b k) QN.out)))
              obtain ⟨D1, D2, D3, D4, D5⟩ := hHeld
              have S1 := Lib.hid (D2.putAll z6x rfl)
              have S2 := Lib.hid (D5.puts (b := w.heap.size + 1 + 1) (by omega) 0 (ints z6x))
              clear D4 QH QZ QT QR QB
              go_wp2_with (first | (refine build_law rfl 26 rfl _ build6o ?_) | (refine store_at rfl 26 _ _ rfl _ _ rfl rfl ?_ 6 ?_ ?_ ?_ ?_; rotate_left; (· (repeat (first | (with_reducible assumption) | ((with_reducible refine Has.box _ _ ?_ ?_) <;> (first | assumption | decide)) | (with_reducible refine Has.alloc ?_ _) | ((with_reducible refine Has.putOther ?_ _ _ ?_); rotate_left; omega; skip) | ((with_reducible refine Has.below ?_ ?_); rotate_left; assumption)))); (· (first | assumption | rfl)); (· kernel_rfl)))
              exact bodyPost_ret (res_has1 rfl _ _ (w.heap.size + 1 + 1) z6x 6 _ (.bool false) rfl rfl S1.out Try.underlying26 rfl (by kernel_rfl)) rfl ⟨by rw [V.out, toR_no V.out], S2.out⟩
        · obtain rfl : k = 6 := by omega
          have V := Lib.hid (toOk_yes LA.out LB.out VA.out VB.out GO.out)
          have hn6 : (ni os).length = 6 := by rw [ni_len]; exact hol
          have RG := Lib.hid (GR.out.numsRange hol.symm)
          have hi6 : (Try.prog.info? 26).map (·.size) = some (ints (ni os)).length := by rw [ints_len, hn6]; kernel_rfl
          have S1 := Lib.hid (GZ.putAll (ni os) hn6)
          have S2 := Lib.hid (GB.out.puts (b := w.heap.size + 1 + 1) (by omega) 0 (ints (ni os)))
          go_wp2_with (first | (refine arrayAt_law rfl 26 _ 6 _ rfl Try.underlying26 _ cap rfl ?_) | (refine wpList_load_mid rfl 26 _ rfl g 0 rfl (ints (ni os)) _ RG.out Try.underlying26 rfl hi6 ?_) | (refine store_at rfl 26 _ _ rfl _ _ rfl rfl ?_ 6 ?_ ?_ ?_ ?_; rotate_left; (· (repeat (first | (with_reducible assumption) | ((with_reducible refine Has.box _ _ ?_ ?_) <;> (first | assumption | decide)) | (with_reducible refine Has.alloc ?_ _) | ((with_reducible refine Has.putOther ?_ _ _ ?_); rotate_left; omega; skip) | ((with_reducible refine Has.below ?_ ?_); rotate_left; assumption)))); (· (first | assumption | rfl)); (· kernel_rfl)))
          exact bodyPost_ret (res_has1 rfl _ _ (w.heap.size + 1 + 1) (ni os) 6 _ (.bool true) rfl rfl S1.out Try.underlying26 rfl (by kernel_rfl)) rfl ⟨by rw [V.out.1, V.out.2], S2.out⟩
    · have V := Lib.hid (toOk_not (a := a) (b := b) fun h => vb h.2)
      have hf : vR b = false := by simpa using vb
      rw [hf]
      clear vb hf
      have S1 := Lib.hid (Z.putAll z6x rfl)
      have S2 := Lib.hid (HB.out.puts (b := w.heap.size + 1 + 1) (by omega) 0 (ints z6x))
      go_wp2_with (first | (refine build_law rfl 26 rfl _ build6o ?_) | (refine store_at rfl 26 _ _ rfl _ _ rfl rfl ?_ 6 ?_ ?_ ?_ ?_; rotate_left; (· (repeat (first | (with_reducible assumption) | ((with_reducible refine Has.box _ _ ?_ ?_) <;> (first | assumption | decide)) | (with_reducible refine Has.alloc ?_ _) | ((with_reducible refine Has.putOther ?_ _ _ ?_); rotate_left; omega; skip) | ((with_reducible refine Has.below ?_ ?_); rotate_left; assumption)))); (· (first | assumption | rfl)); (· kernel_rfl)))
      exact bodyPost_ret (res_has1 rfl _ _ (w.heap.size + 1 + 1) z6x 6 _ (.bool false) rfl rfl S1.out Try.underlying26 rfl (by kernel_rfl)) rfl ⟨by rw [V.out, toR_no V.out], S2.out⟩
  · have V := Lib.hid (toOk_not (a := a) (b := b) fun h => va h.1)
    have hf : vR a = false := by simpa using va
    rw [hf]
    clear va hf
    have S1 := Lib.hid (Z.putAll z6x rfl)
    have S2 := Lib.hid (HB.out.puts (b := w.heap.size + 1 + 1) (by omega) 0 (ints z6x))
    go_wp2_with (first | (refine build_law rfl 26 rfl _ build6o ?_) | (refine store_at rfl 26 _ _ rfl _ _ rfl rfl ?_ 6 ?_ ?_ ?_ ?_; rotate_left; (· (repeat (first | (with_reducible assumption) | ((with_reducible refine Has.box _ _ ?_ ?_) <;> (first | assumption | decide)) | (with_reducible refine Has.alloc ?_ _) | ((with_reducible refine Has.putOther ?_ _ _ ?_); rotate_left; omega; skip) | ((with_reducible refine Has.below ?_ ?_); rotate_left; assumption)))); (· (first | assumption | rfl)); (· kernel_rfl)))
    exact bodyPost_ret (res_has1 rfl _ _ (w.heap.size + 1 + 1) z6x 6 _ (.bool false) rfl rfl S1.out Try.underlying26 rfl (by kernel_rfl)) rfl ⟨by rw [V.out, toR_no V.out], S2.out⟩
end Go.Proofs.Ytjbphpjmpjkclab.base
