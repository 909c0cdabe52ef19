/-
  How many renamings lead to the rack again, on the program's side, walked.
-/
import Derived.Test.YtlleenepinijdaaClsJ
namespace Go.Proofs.Ytlleenepinijdaa.base
open Go.ChangeShapes Go.WideShapes Go.ChangeAt Go.RowKit
set_option linter.unusedVariables false
set_option linter.unusedSimpArgs false

def manyR (ns : List Int) : Nat := if vR ns = true then ownMany ns else 0
section
variable {P : Program} {w : World} {o : Oper} {a : Act} {K : Act → World → Prop} {Q : Exit → Act → World → Prop}
theorem wp_lenV {KT e : TypeId} {b n L : Nat} {f : List Int → Option Value} (m : Operand) (t : TypeId) (hop : o.op = Op.call { callee := Callee.builtin Builtin.len, args := #[m], argTypes := #[t] }) (ht : P.underlying t = some (.map KT e))
    (hown : OwnV P w KT b n L f) (hm : a.eval m = .map (some b)) (h : K (a.put o.dst (.int .i64 n)) w) : Oper.wp P o a w K Q := by
  unfold Oper.wp
  simp [execOp, hop, resolve, invoke, builtin, hm, hown.len ht o.type, Result.andThen]
  exact h
end
theorem wrap_smallK (n : Nat) (h : n < 1000) : IntKind.i64.wrap (n : Int) = (n : Int) := by
  have h1 : (n : Int) % (2 ^ IntKind.i64.bits : Int) = n := by simp only [IntKind.bits]; omega
  have h2 : ¬ ((n : Int) ≥ (2 ^ (IntKind.i64.bits - 1) : Int)) := by simp only [IntKind.bits]; omega
  unfold IntKind.wrap
  simp only [h1, decide_eq_false h2, Bool.and_false, Bool.false_eq_true, if_false]
theorem div120 {c m : Nat} (h : 120 / c = m) : Int.tdiv (120 : Int) ((c : Nat) : Int) = ((m : Nat) : Int) := by rw [← h]; rfl

set_option maxHeartbeats 1600000 in
set_option maxRecDepth 100000 in
theorem implCountRen (ns : List Int) (w : World) (h24 : ns.length = 24) :
    Calls Try.prog 17 #[row ns] w fun e w' => e = .returned (.tuple #[.int .i64 (manyR ns : Nat), .bool (vR ns)]) ∧ Kept w w' := by
  have HB := Lib.hid ((kept_refl w).alloc (.cells (ints ns).toArray 28))
  have H1 := Has.box w 28 h24 (by omega)
  have hi1 : (Try.prog.info? 28).map (·.size) = some (ints ns).length := by rw [ints_len, h24]; kernel_rfl
  rw [row_ints]
  go_enter Try.func17, Try.ntmps17
  go_wp2_with (refine load_has rfl 28 _ rfl _ rfl ?_ 24 ?_ _ Try.underlying28 rfl ?_ ?_; rotate_left; (· (repeat (first | (with_reducible assumption) | ((with_reducible refine Has.box _ _ ?_ ?_) <;> (first | assumption | decide)) | (with_reducible refine Has.alloc ?_ _) | ((with_reducible refine Has.putOther ?_ _ _ ?_); rotate_left; omega; skip) | ((with_reducible refine Has.below ?_ ?_); rotate_left; assumption)))); (· kernel_rfl))
  refine (isRack_any ns _ h24).mono ?_
  rintro e w1 ⟨rfl, b1⟩
  replace H1 := H1.below b1
  replace HB := Lib.hid (HB.out.call b1)
  clear b1
  by_cases hv : vR ns = true
  · rw [hv]
    have D := own_div h24 (cols_of h24 hv)
    have hN : (firsts (renForms ns) 120).length = clsN ns 120 := rfl
    rw [hN] at D
    have E1 := Lib.hid (show manyR ns = ownMany ns by unfold manyR; rw [if_pos hv])
    have hmle : ownMany ns ≤ 120 := by rw [← D.1]; exact Nat.div_le_self _ _
    have DV : Hid (IntKind.i64.wrap (Int.tdiv 120 ((clsN ns 120 : Nat) : Int)) = ((ownMany ns : Nat) : Int)) := Lib.hid (by rw [div120 D.1]; exact wrap_smallK _ (by omega))
    have hp := D.2
    have hle := clsN_le ns 120 (by omega)
    have HV := Lib.hid hv
    have KC := Lib.hid (fun W => classOf_any ns W h24 hv)
    clear hN D hv h24
    generalize clsN ns 120 = CN at *
    generalize clsV ns 120 = CV at *
    have hnz0 : ¬ CN = 0 := by omega
    have hM : ownMany ns ≤ 120 := hmle
    go_wp2_with fail
    have DH1 := H1.drew
    have DB := Lib.hid (keptDrewJ HB.out)
    clear H1 HB
    refine wp_region_held_drew (S := fun w' => Has w' w.heap.size ns 24) (by kernel_rfl) DH1 (fun hHeld => ?_)
    generalize hWD : World.drew _ = WD5 at *
    clear hWD
    (refine wpAnyH_take (i := 2) (v := _) rfl (by kernel_rfl) (by kernel_rfl) (by kernel_rfl) (fun _ _ _ h => h) (yieldsIf_load_mid (by rfl) 28 _ rfl _ _ rfl (ints ns) _ (fun w' hSw => hSw.holds.range) Try.underlying28 rfl (hi1)) hHeld ?_; (try simp only [List.getElem_toArray, List.getElem_cons_zero, List.getElem_cons_succ, Act.put, List.setIfInBounds_toArray, List.set_cons_zero, List.set_cons_succ]))
    (refine wpAnyH_ready (rs := [0]) (by kernel_rfl) (by simp) ?_; refine AllReadyH.cons (o := _) rfl (fun K hK => ?_) AllReadyH.nil; (simp only [List.getElem_toArray, List.getElem_cons_zero, List.getElem_cons_succ, Region.wanted, if_true]))
    go_simp
    refine (allRenamings_any _).mono ?_
    rintro e wc1 ⟨v, rfl, q1, bc1⟩
    dsimp only
    (try simp only [List.getElem_toArray, List.getElem_cons_zero, List.getElem_cons_succ, Act.put, List.setIfInBounds_toArray, List.set_cons_zero, List.set_cons_succ])
    refine hK.out _ _ (hHeld.below bc1) (fun hHeld => ?_)
    clear hK K
    obtain ⟨a1, cap1, rfl⟩ := q1.shape
    rw [allN_len]
    replace DB := Lib.hid (DB.out.call bc1)
    clear q1 bc1
    (refine wpAnyH_take (i := 1) (v := ?_) rfl (by kernel_rfl) (by kernel_rfl) (by kernel_rfl) (fun _ _ _ h => h) (Or.inl ⟨by rfl, ?_⟩) hHeld ?_; rotate_left; (· (intro w' hSw; go_simp; try with_reducible rfl)); (try simp only [List.getElem_toArray, List.getElem_cons_zero, List.getElem_cons_succ, Act.put, List.setIfInBounds_toArray, List.set_cons_zero, List.set_cons_succ]))
    (refine wpAnyH_ready (rs := [3]) (by kernel_rfl) (by simp) ?_; refine AllReadyH.cons (o := _) rfl (fun K hK => ?_) AllReadyH.nil; (simp only [List.getElem_toArray, List.getElem_cons_zero, List.getElem_cons_succ, Region.wanted, if_true]))
    go_simp
    refine (KC.out _).mono ?_
    rintro e wc2 ⟨gm, rfl, gle, HM, bc2⟩
    dsimp only
    (try simp only [List.getElem_toArray, List.getElem_cons_zero, List.getElem_cons_succ, Act.put, List.setIfInBounds_toArray, List.set_cons_zero, List.set_cons_succ])
    refine hK.out _ _ (hHeld.below bc2) (fun hHeld => ?_)
    clear hK K
    replace DB := Lib.hid (DB.out.call bc2)
    clear bc2
    (refine wpAnyH_ready (rs := [4]) (by kernel_rfl) (by simp) ?_; refine AllReadyH.cons (o := _) rfl (fun K hK => ?_) AllReadyH.nil; (simp only [List.getElem_toArray, List.getElem_cons_zero, List.getElem_cons_succ, Region.wanted, if_true]))
    refine wp_lenV _ 47 rfl Try.underlying47 HM rfl ?_
    (try simp only [List.getElem_toArray, List.getElem_cons_zero, List.getElem_cons_succ, Act.put, List.setIfInBounds_toArray, List.set_cons_zero, List.set_cons_succ])
    refine hK.out _ _ hHeld (fun hHeld => ?_)
    clear hK K
    refine wpAnyH_take (i := 5) (v := .int .i64 (ownMany ns : Nat)) rfl (by kernel_rfl) (by kernel_rfl) (by kernel_rfl) (fun _ _ _ h => h) (Or.inl ⟨by rfl, ?_⟩) hHeld ?_
    · intro w' hSw
      go_simp
      rw [DV.out]
    (try simp only [List.getElem_toArray, List.getElem_cons_zero, List.getElem_cons_succ, Act.put, List.setIfInBounds_toArray, List.set_cons_zero, List.set_cons_succ])
    (refine wpAnyH_take (i := 6) (v := ?_) rfl (by kernel_rfl) (by kernel_rfl) (by kernel_rfl) (fun _ _ _ h => h) (Or.inl ⟨by rfl, ?_⟩) hHeld ?_; rotate_left; (· (intro w' hSw; go_simp; try with_reducible rfl)); (try simp only [List.getElem_toArray, List.getElem_cons_zero, List.getElem_cons_succ, Act.put, List.setIfInBounds_toArray, List.set_cons_zero, List.set_cons_succ])); (refine wpAnyH_take (i := 7) (v := ?_) rfl (by kernel_rfl) (by kernel_rfl) (by kernel_rfl) (fun _ _ _ h => h) (Or.inl ⟨by rfl, ?_⟩) hHeld ?_; rotate_left; (· (intro w' hSw; go_simp; try with_reducible rfl)); (try simp only [List.getElem_toArray, List.getElem_cons_zero, List.getElem_cons_succ, Act.put, List.setIfInBounds_toArray, List.set_cons_zero, List.set_cons_succ]))
    refine wpAnyH_done (by kernel_rfl) ?_ _
    go_wp2_with fail
    go_ret2
    exact ⟨by rw [E1.out, HV.out]; rfl, DB.out⟩
  · have hf : vR ns = false := by simpa using hv
    have E1 := Lib.hid (show manyR ns = 0 by unfold manyR; rw [if_neg hv])
    rw [hf]
    have HF := Lib.hid hf
    clear hv hf
    go_wp2_with fail
    go_ret2
    exact ⟨by rw [E1.out, HF.out]; rfl, HB.out⟩
end Go.Proofs.Ytlleenepinijdaa.base
