/-
  Games on the program's side, walked: complete tubes, turns, what a turn completes.
-/
import Derived.Test.YtalngdccjoafhabMulMZ
import Derived.Test.YtalngdccjoafhabUseI
import Derived.Test.YtalngdccjoafhabBackMZ
import Derived.Test.YtalngdccjoafhabGridZ
import Derived.Test.YtalngdccjoafhabRwZ
import Derived.Test.YtalngdccjoafhabNu
import Derived.Deep.Cut
import Derived.Deep.CutRange
namespace Go.Proofs.Ytalngdccjoafhab.base
open Go.ChangeShapes Go.WideShapes Go.ChangeAt Go.RowKit
set_option linter.unusedVariables false
set_option linter.unusedSimpArgs false

section
variable {P : Program} {ops : Array Oper} {rest : List Oper} {op : Oper} {a : Act} {w : World} {Q : Exit → Act → World → Prop}
/-- A part of a block of numbers is loaded. -/
theorem load_sub (hw : Region.wanted op (yielded ops a.tmps) = true) (T : TypeId) (x : Operand) (ho : op.op = .load T x) (b k m o : Nat) (hx : a.eval x = .pointer (some ⟨b, o, none⟩)) (hko : o = k) (vs : List Int) (n : Nat) (H : Has w b vs n) (ms : List Int) (hm : (vs.drop k).take m = ms) (hl : ms.length = m)
    (d : TypeDesc) (hu : P.underlying T = some d) (hd : d.isRow = true) (hi : (P.info? T).map (·.size) = some m)
    (h : wpList P ops Q rest (a.put op.dst (.agg (ints ms).toArray)) w) : wpList P ops Q (op :: rest) a w := by
  subst hko
  exact wpList_wanted hw fun _ hK => wp_load_mid T x ho b o hx (ints ms) d (by rw [← hm]; exact H.holds.sub o m) hu hd (by rw [ints_len, hl]; exact hi) (hK _ _ h)
theorem build_two (hw : Region.wanted op (yielded ops a.tmps) = true) (T : TypeId) (x y : Operand) (ho : op.op = .build T #[(0, x), (1, y)]) (u u2 v : Value) (hx : a.eval x = u) (hy : a.eval y = u2)
    (hq : ∀ w, (Instr.build T #[(0, u), (1, u2)]).run P w = .ok v w)
    (h : wpList P ops Q rest (a.put op.dst v) w) : wpList P ops Q (op :: rest) a w :=
  wpList_wanted hw fun _ hK => by
    unfold Oper.wp execOp
    simp only [ho, hx, hy, Sem.run_bind, List.map_toArray, List.map_cons, List.map_nil, hq, Result.andThen_ok, Sem.run_pure]
    exact hK _ _ h
end
theorem Has.cellXg {w : World} {b n k : Nat} {ns : List Int} {x : Int} (h : Has w b ns n) (hk : k < n) (hx : ns.getD k 0 = x) : w.cell? ⟨b, k, none⟩ = some (.int .i64 x) := by rw [h.cell k hk, hx]
theorem keptDrew8G {w W : World} (h : Kept w W) : Kept w W.drew := ⟨h.os, h.tape, h.output, h.size, h.block⟩
def z26 : List Int := List.replicate 26 0
theorem Has.zero26 (w : World) (T : TypeId) : Has (w.alloc (.cells #[.int .i64 0, .int .i64 0, .int .i64 0, .int .i64 0, .int .i64 0, .int .i64 0, .int .i64 0, .int .i64 0, .int .i64 0, .int .i64 0, .int .i64 0, .int .i64 0, .int .i64 0, .int .i64 0, .int .i64 0, .int .i64 0, .int .i64 0, .int .i64 0, .int .i64 0, .int .i64 0, .int .i64 0, .int .i64 0, .int .i64 0, .int .i64 0, .int .i64 0, .int .i64 0] T)) w.heap.size z26 26 := Has.box (ns := z26) w T rfl (by decide)
theorem buildTurnZ (w : World) : (Instr.build 59 #[]).run Try.prog w = .ok (.agg (ints z26).toArray) w := by kernel_rfl
set_option maxRecDepth 100000 in
theorem buildTurn (x y : Int) (ns : List Int) (h : ns.length = 24) (w : World) : (Instr.build 59 #[(0, .agg (ints [x, y]).toArray), (1, .agg (ints ns).toArray)]).run Try.prog w = .ok (.agg (ints (x :: y :: ns)).toArray) w := by
  match ns, h with
  | [a0, a1, a2, a3, a4, a5, a6, a7, a8, a9, a10, a11, a12, a13, a14, a15, a16, a17, a18, a19, a20, a21, a22, a23], _ => exact run_build w _ _ _ (by kernel_rfl)
theorem trn_rack (x y : Int) (t : List Int) (h : t.length = 24) : ((x :: y :: t).drop 2).take 24 = t := by
  show t.take 24 = t
  rw [List.take_of_length_le (by omega)]
theorem trn_tub (x y : Int) (t : List Int) (q : Nat) : ((x :: y :: t).drop (2 + q * 4)).take 4 = tub t q := by
  rw [show 2 + q * 4 = (q * 4 + 1) + 1 by omega, List.drop_succ_cons, List.drop_succ_cons]; rfl

def cmFA (ns : List Int) : List Int := if vR ns = true then cmpl ns 6 else []
def CmPost (ns : List Int) (w : World) (e : Ending) (w' : World) : Prop := ∃ v : Value, e = .returned (.tuple #[v, .bool (vR ns)]) ∧ Nu w' w.heap.size v (cmFA ns).length (cmFA ns) ∧ Kept w w'
theorem nu_none0 (w : World) (b : Nat) (hb : b ≤ w.heap.size) : Nu (w.alloc (.cells #[] 3)) b (.slice (some ⟨w.heap.size, 0, Option.none⟩) 0 0) 0 [] := by
  have := World.ownsRow_made (base := b) (e := 3) (size := 1) w #[] 0 hb (by unfold maxLen; omega) (by simp)
  simpa [Nu, ints] using this
theorem ints_more0 (xs : List Int) (x : Int) : ints (xs ++ [x]) = ints xs ++ [.int .i64 x] := by unfold ints; rw [List.map_append]; rfl

/-! turns -/
def tbOk (ns : List Int) (x y : Int) : Bool := pourOk ns x y && !idl ns x.toNat y.toNat
def tbR (ns : List Int) (x y : Int) : List Int := if tbOk ns x y = true then x :: y :: pourR ns x y else z26
theorem tbR_len {ns : List Int} (h : ns.length = 24) (x y : Int) : (tbR ns x y).length = 26 := by
  unfold tbR
  split
  · rw [List.length_cons, List.length_cons, pourR_len h]
  · rfl
theorem pour_places {ns : List Int} {x y : Int} (h : pourOk ns x y = true) : vR ns = true ∧ ∃ p q : Nat, x = (p : Int) ∧ y = (q : Int) ∧ p < 6 ∧ q < 6 ∧ p ≠ q := by
  have h2 : twoOk ns x y = true := by unfold pourOk at h; exact (Bool.and_eq_true_iff.1 h).1
  obtain ⟨hv, p, q, e1, e2, hp, hq, hne⟩ := twoOk_of h2
  exact ⟨hv, p, q, e1, e2, hp, hq, hne⟩

set_option maxHeartbeats 1600000 in
set_option maxRecDepth 100000 in
theorem turnBy_any (ns : List Int) (x y : Int) (w : World) (h24 : ns.length = 24) :
    Calls Try.prog 35 #[row ns, row [x, y]] w fun e w' => e = .returned (.tuple #[row (tbR ns x y), .bool (tbOk ns x y)]) ∧ Kept w w' := by
  have HB := Lib.hid ((((kept_refl w).alloc (.cells (ints ns).toArray 30)).alloc (.cells (ints [x, y]).toArray 51)).alloc (.cells #[.int .i64 0, .int .i64 0, .int .i64 0, .int .i64 0, .int .i64 0, .int .i64 0, .int .i64 0, .int .i64 0, .int .i64 0, .int .i64 0, .int .i64 0, .int .i64 0, .int .i64 0, .int .i64 0, .int .i64 0, .int .i64 0, .int .i64 0, .int .i64 0, .int .i64 0, .int .i64 0, .int .i64 0, .int .i64 0, .int .i64 0, .int .i64 0, .int .i64 0, .int .i64 0] 59))
  have H := ((Has.box w 30 h24 (by omega)).alloc (.cells (ints [x, y]).toArray 51)).alloc (.cells #[.int .i64 0, .int .i64 0, .int .i64 0, .int .i64 0, .int .i64 0, .int .i64 0, .int .i64 0, .int .i64 0, .int .i64 0, .int .i64 0, .int .i64 0, .int .i64 0, .int .i64 0, .int .i64 0, .int .i64 0, .int .i64 0, .int .i64 0, .int .i64 0, .int .i64 0, .int .i64 0, .int .i64 0, .int .i64 0, .int .i64 0, .int .i64 0, .int .i64 0, .int .i64 0] 59)
  have HP := ((Has.box (ns := [x, y]) (n := 2) (w.alloc (.cells (ints ns).toArray 30)) 51 rfl (by omega)).at (size1 _ _)).alloc (.cells #[.int .i64 0, .int .i64 0, .int .i64 0, .int .i64 0, .int .i64 0, .int .i64 0, .int .i64 0, .int .i64 0, .int .i64 0, .int .i64 0, .int .i64 0, .int .i64 0, .int .i64 0, .int .i64 0, .int .i64 0, .int .i64 0, .int .i64 0, .int .i64 0, .int .i64 0, .int .i64 0, .int .i64 0, .int .i64 0, .int .i64 0, .int .i64 0, .int .i64 0, .int .i64 0] 59)
  have Z := (Has.zero26 ((w.alloc (.cells (ints ns).toArray 30)).alloc (.cells (ints [x, y]).toArray 51)) 59).at (c := w.heap.size + 1 + 1) (by simp)
  have hT := pourR_len h24 x y
  have H24 := Lib.hid h24
  have KP := Lib.hid (fun W => implPour ns x y W h24)
  have hb0 := tbR_len h24 x y
  have EO : Hid (tbOk ns x y = (pourOk ns x y && !idl ns x.toNat y.toNat)) := Lib.hid rfl
  have ER : Hid (tbR ns x y = if tbOk ns x y = true then x :: y :: pourR ns x y else z26) := Lib.hid rfl
  have c0 := HP.cellXg (k := 0) (x := x) (by omega) rfl
  have c1 := HP.cellXg (k := 1) (x := y) (by omega) rfl
  rw [row_ints, row_ints, row_ints]
  go_enter Try.func35, Try.ntmps35
  go_wp2_with (refine load_has rfl 30 _ rfl _ rfl ?_ 24 ?_ _ Try.underlying30 rfl ?_ ?_; rotate_left; (· (repeat (first | (with_reducible assumption) | ((with_reducible refine Has.box _ _ ?_ ?_) <;> (first | assumption | decide)) | (with_reducible refine Has.alloc ?_ _) | ((with_reducible refine Has.putOther ?_ _ _ ?_); rotate_left; omega; skip) | ((with_reducible refine Has.below ?_ ?_); rotate_left; assumption)))); (· kernel_rfl))
  refine (KP.out _).mono ?_
  rintro e w1 ⟨rfl, b1⟩
  obtain ⟨t, ht⟩ : ∃ t, pourR ns x y = t := ⟨_, rfl⟩
  rw [ht] at hT ER ⊢
  have hs1 := b1.size
  simp only [size1] at hs1
  have HX := Has.box w1 30 hT (by omega)
  replace H := (H.below b1).alloc (.cells (ints t).toArray 30)
  replace HP := (HP.below b1).alloc (.cells (ints t).toArray 30)
  replace Z := (Z.below b1).alloc (.cells (ints t).toArray 30)
  replace HB := Lib.hid ((HB.out.call b1).alloc (.cells (ints t).toArray 30))
  clear b1 KP c0 c1
  cases hok : pourOk ns x y with
  | false =>
    have EO2 : Hid (tbOk ns x y = false) := Lib.hid (by rw [EO.out, hok]; rfl)
    have ER2 : Hid (tbR ns x y = z26) := Lib.hid (by rw [ER.out, if_neg (by rw [EO2.out]; simp)])
    generalize pourA ns x y = pa at *
    clear hok ht
    go_upto_region 2 with (refine store_new rfl 30 _ _ rfl _ _ _ rfl _ rfl _ rfl rfl ?_ ?_ ?_; (· (first | assumption | rfl)); (· kernel_rfl))
    obtain ⟨xb, hxb⟩ : ∃ xb, w1.heap.size = xb := ⟨_, rfl⟩
    rw [hxb] at HX hs1 ⊢
    generalize w1.alloc (.cells (ints t).toArray 30) = W at *
    clear hxb
    refine wp_region_held_drew (S := fun w' => Has w' w.heap.size ns 24) (by kernel_rfl) H.drew (fun hHeld => ?_)
    (refine wpAnyH_take (i := 0) (v := ?_) rfl (by kernel_rfl) (by kernel_rfl) (by kernel_rfl) (fun _ _ _ h => h) (Or.inl ⟨by rfl, ?_⟩) hHeld ?_; rotate_left; (· (intro w' hSw; go_simp; try with_reducible rfl)); (try simp only [List.getElem_toArray, List.getElem_cons_zero, List.getElem_cons_succ, Act.put, List.setIfInBounds_toArray, List.set_cons_zero, List.set_cons_succ])); (refine wpAnyH_take (i := 1) (v := ?_) rfl (by kernel_rfl) (by kernel_rfl) (by kernel_rfl) (fun _ _ _ h => h) (Or.inl ⟨by rfl, ?_⟩) hHeld ?_; rotate_left; (· (intro w' hSw; go_simp; try with_reducible rfl)); (try simp only [List.getElem_toArray, List.getElem_cons_zero, List.getElem_cons_succ, Act.put, List.setIfInBounds_toArray, List.set_cons_zero, List.set_cons_succ])); (refine wpAnyH_take (i := 2) (v := ?_) rfl (by kernel_rfl) (by kernel_rfl) (by kernel_rfl) (fun _ _ _ h => h) (Or.inl ⟨by rfl, ?_⟩) hHeld ?_; rotate_left; (· (intro w' hSw; go_simp; try with_reducible rfl)); (try simp only [List.getElem_toArray, List.getElem_cons_zero, List.getElem_cons_succ, Act.put, List.setIfInBounds_toArray, List.set_cons_zero, List.set_cons_succ]))
    (refine wpAnyH_take (i := 3) (v := undef) rfl (by kernel_rfl) (by kernel_rfl) (by kernel_rfl) (fun _ _ _ h => h) (Or.inr ⟨by rfl, rfl⟩) hHeld ?_; (try simp only [List.getElem_toArray, List.getElem_cons_zero, List.getElem_cons_succ, Act.put, List.setIfInBounds_toArray, List.set_cons_zero, List.set_cons_succ])); (refine wpAnyH_take (i := 4) (v := undef) rfl (by kernel_rfl) (by kernel_rfl) (by kernel_rfl) (fun _ _ _ h => h) (Or.inr ⟨by rfl, rfl⟩) hHeld ?_; (try simp only [List.getElem_toArray, List.getElem_cons_zero, List.getElem_cons_succ, Act.put, List.setIfInBounds_toArray, List.set_cons_zero, List.set_cons_succ])); (refine wpAnyH_take (i := 5) (v := undef) rfl (by kernel_rfl) (by kernel_rfl) (by kernel_rfl) (fun _ _ _ h => h) (Or.inr ⟨by rfl, rfl⟩) hHeld ?_; (try simp only [List.getElem_toArray, List.getElem_cons_zero, List.getElem_cons_succ, Act.put, List.setIfInBounds_toArray, List.set_cons_zero, List.set_cons_succ])); (refine wpAnyH_take (i := 6) (v := undef) rfl (by kernel_rfl) (by kernel_rfl) (by kernel_rfl) (fun _ _ _ h => h) (Or.inr ⟨by rfl, rfl⟩) hHeld ?_; (try simp only [List.getElem_toArray, List.getElem_cons_zero, List.getElem_cons_succ, Act.put, List.setIfInBounds_toArray, List.set_cons_zero, List.set_cons_succ])); (refine wpAnyH_take (i := 7) (v := undef) rfl (by kernel_rfl) (by kernel_rfl) (by kernel_rfl) (fun _ _ _ h => h) (Or.inr ⟨by rfl, rfl⟩) hHeld ?_; (try simp only [List.getElem_toArray, List.getElem_cons_zero, List.getElem_cons_succ, Act.put, List.setIfInBounds_toArray, List.set_cons_zero, List.set_cons_succ])); (refine wpAnyH_take (i := 8) (v := undef) rfl (by kernel_rfl) (by kernel_rfl) (by kernel_rfl) (fun _ _ _ h => h) (Or.inr ⟨by rfl, rfl⟩) hHeld ?_; (try simp only [List.getElem_toArray, List.getElem_cons_zero, List.getElem_cons_succ, Act.put, List.setIfInBounds_toArray, List.set_cons_zero, List.set_cons_succ])); (refine wpAnyH_take (i := 9) (v := undef) rfl (by kernel_rfl) (by kernel_rfl) (by kernel_rfl) (fun _ _ _ h => h) (Or.inr ⟨by rfl, rfl⟩) hHeld ?_; (try simp only [List.getElem_toArray, List.getElem_cons_zero, List.getElem_cons_succ, Act.put, List.setIfInBounds_toArray, List.set_cons_zero, List.set_cons_succ])); (refine wpAnyH_take (i := 10) (v := undef) rfl (by kernel_rfl) (by kernel_rfl) (by kernel_rfl) (fun _ _ _ h => h) (Or.inr ⟨by rfl, rfl⟩) hHeld ?_; (try simp only [List.getElem_toArray, List.getElem_cons_zero, List.getElem_cons_succ, Act.put, List.setIfInBounds_toArray, List.set_cons_zero, List.set_cons_succ])); (refine wpAnyH_take (i := 11) (v := undef) rfl (by kernel_rfl) (by kernel_rfl) (by kernel_rfl) (fun _ _ _ h => h) (Or.inr ⟨by rfl, rfl⟩) hHeld ?_; (try simp only [List.getElem_toArray, List.getElem_cons_zero, List.getElem_cons_succ, Act.put, List.setIfInBounds_toArray, List.set_cons_zero, List.set_cons_succ])); (refine wpAnyH_take (i := 12) (v := undef) rfl (by kernel_rfl) (by kernel_rfl) (by kernel_rfl) (fun _ _ _ h => h) (Or.inr ⟨by rfl, rfl⟩) hHeld ?_; (try simp only [List.getElem_toArray, List.getElem_cons_zero, List.getElem_cons_succ, Act.put, List.setIfInBounds_toArray, List.set_cons_zero, List.set_cons_succ])); (refine wpAnyH_take (i := 13) (v := undef) rfl (by kernel_rfl) (by kernel_rfl) (by kernel_rfl) (fun _ _ _ h => h) (Or.inr ⟨by rfl, rfl⟩) hHeld ?_; (try simp only [List.getElem_toArray, List.getElem_cons_zero, List.getElem_cons_succ, Act.put, List.setIfInBounds_toArray, List.set_cons_zero, List.set_cons_succ]))
    (refine wpAnyH_take (i := 14) (v := ?_) rfl (by kernel_rfl) (by kernel_rfl) (by kernel_rfl) (fun _ _ _ h => h) (Or.inl ⟨by rfl, ?_⟩) hHeld ?_; rotate_left; (· (intro w' hSw; go_simp; try with_reducible rfl)); (try simp only [List.getElem_toArray, List.getElem_cons_zero, List.getElem_cons_succ, Act.put, List.setIfInBounds_toArray, List.set_cons_zero, List.set_cons_succ]))
    refine wpAnyH_done (by kernel_rfl) ?_ _
    have S1 := Lib.hid (Z.drew.putAll z26 rfl)
    have S2 := Lib.hid (keptDrew8G HB.out |>.puts (b := w.heap.size + 1 + 1) (by omega) 0 (ints z26))
    replace Z := Z.drew
    go_wp2_with (first | (refine build_law rfl 59 rfl _ buildTurnZ ?_) | (refine store_at rfl 59 _ _ rfl _ _ rfl rfl ?_ 26 ?_ ?_ ?_ ?_; rotate_left; (· (repeat (first | (with_reducible assumption) | ((with_reducible refine Has.box _ _ ?_ ?_) <;> (first | assumption | decide)) | (with_reducible refine Has.alloc ?_ _) | ((with_reducible refine Has.putOther ?_ _ _ ?_); rotate_left; omega; skip) | ((with_reducible refine Has.below ?_ ?_); rotate_left; assumption)))); (· (first | assumption | rfl)); (· kernel_rfl)))
    exact bodyPost_ret (res_has1 rfl _ _ (w.heap.size + 1 + 1) z26 26 _ (.bool false) rfl rfl S1.out Try.underlying59 rfl (by kernel_rfl)) rfl ⟨by rw [ER2.out, EO2.out], S2.out⟩
  | true =>
    obtain ⟨hv, p, q, hx, hy, hp, hq, hne⟩ := pour_places hok
    have EO2 : Hid (tbOk ns x y = !idl ns p q) := Lib.hid (by rw [EO.out, hok, hx, hy]; simp)
    generalize pourA ns x y = pa at *
    clear hok ht
    go_upto_region 2 with (refine store_new rfl 30 _ _ rfl _ _ _ rfl _ rfl _ rfl rfl ?_ ?_ ?_; (· (first | assumption | rfl)); (· kernel_rfl))
    obtain ⟨xb, hxb⟩ : ∃ xb, w1.heap.size = xb := ⟨_, rfl⟩
    rw [hxb] at HX hs1 ⊢
    generalize w1.alloc (.cells (ints t).toArray 30) = W at *
    clear hxb
    have hpi : (p : Int) < 6 := by omega
    have hqi : (q : Int) < 6 := by omega
    have hp0 : (0 : Int) ≤ (p : Int) := by omega
    have hq0 : (0 : Int) ≤ (q : Int) := by omega
    have sA := tub_len ns p h24 hp
    have sB := tub_len ns q h24 hq
    have vp := vR_tub hv p hp
    have vq := vR_tub hv q hq
    have hi1 : (Try.prog.info? 22).map (·.size) = some (ints (tub ns p)).length := by rw [ints_len, sA]; kernel_rfl
    have hi2 : (Try.prog.info? 22).map (·.size) = some (ints (tub ns q)).length := by rw [ints_len, sB]; kernel_rfl
    have XH := Lib.hid hx
    have YH := Lib.hid hy
    clear hv hne
    refine wp_region_held_drew (S := fun w' => Has w' w.heap.size ns 24 ∧ Has w' (w.heap.size + 1) [x, y] 2) (by kernel_rfl) ⟨H.drew, HP.drew⟩ (fun hHeld => ?_)
    (refine wpAnyH_take (i := 0) (v := ?_) rfl (by kernel_rfl) (by kernel_rfl) (by kernel_rfl) (fun _ _ _ h => h) (Or.inl ⟨by rfl, ?_⟩) hHeld ?_; rotate_left; (· (intro w' hSw; go_simp; try with_reducible rfl)); (try simp only [List.getElem_toArray, List.getElem_cons_zero, List.getElem_cons_succ, Act.put, List.setIfInBounds_toArray, List.set_cons_zero, List.set_cons_succ])); (refine wpAnyH_take (i := 1) (v := ?_) rfl (by kernel_rfl) (by kernel_rfl) (by kernel_rfl) (fun _ _ _ h => h) (Or.inl ⟨by rfl, ?_⟩) hHeld ?_; rotate_left; (· (intro w' hSw; go_simp; try with_reducible rfl)); (try simp only [List.getElem_toArray, List.getElem_cons_zero, List.getElem_cons_succ, Act.put, List.setIfInBounds_toArray, List.set_cons_zero, List.set_cons_succ])); (refine wpAnyH_take (i := 2) (v := ?_) rfl (by kernel_rfl) (by kernel_rfl) (by kernel_rfl) (fun _ _ _ h => h) (Or.inl ⟨by rfl, ?_⟩) hHeld ?_; rotate_left; (· (intro w' hSw; go_simp; try with_reducible rfl)); (try simp only [List.getElem_toArray, List.getElem_cons_zero, List.getElem_cons_succ, Act.put, List.setIfInBounds_toArray, List.set_cons_zero, List.set_cons_succ])); (refine wpAnyH_take (i := 3) (v := ?_) rfl (by kernel_rfl) (by kernel_rfl) (by kernel_rfl) (fun _ _ _ h => h) (Or.inl ⟨by rfl, ?_⟩) hHeld ?_; rotate_left; (· (intro w' hSw; go_simp; try with_reducible rfl)); (try simp only [List.getElem_toArray, List.getElem_cons_zero, List.getElem_cons_succ, Act.put, List.setIfInBounds_toArray, List.set_cons_zero, List.set_cons_succ])); (refine wpAnyH_take (i := 5) (v := ?_) rfl (by kernel_rfl) (by kernel_rfl) (by kernel_rfl) (fun _ _ _ h => h) (Or.inl ⟨by rfl, ?_⟩) hHeld ?_; rotate_left; (· (intro w' hSw; go_simp; try with_reducible rfl)); (try simp only [List.getElem_toArray, List.getElem_cons_zero, List.getElem_cons_succ, Act.put, List.setIfInBounds_toArray, List.set_cons_zero, List.set_cons_succ]))
    (refine wpAnyH_take (i := 4) (v := .int .i64 (p : Int)) rfl (by kernel_rfl) (by kernel_rfl) (by kernel_rfl) (fun _ _ _ h => h) (Or.inl ⟨by rfl, ?_⟩) hHeld ?_; (· (intro w' hSw; have q := hSw.2.cellXg (k := 0) (x := (p : Int)) (by omega) XH.out; clear hSw; go_simp; try with_reducible rfl)); (try simp only [List.getElem_toArray, List.getElem_cons_zero, List.getElem_cons_succ, Act.put, List.setIfInBounds_toArray, List.set_cons_zero, List.set_cons_succ]))
    (refine wpAnyH_take (i := 6) (v := ?_) rfl (by kernel_rfl) (by kernel_rfl) (by kernel_rfl) (fun _ _ _ h => h) (Or.inl ⟨by rfl, ?_⟩) hHeld ?_; rotate_left; (· (intro w' hSw; go_simp; try with_reducible rfl)); (try simp only [List.getElem_toArray, List.getElem_cons_zero, List.getElem_cons_succ, Act.put, List.setIfInBounds_toArray, List.set_cons_zero, List.set_cons_succ]))
    (refine wpAnyH_take (i := 7) (v := _) rfl (by kernel_rfl) (by kernel_rfl) (by kernel_rfl) (fun _ _ _ h => h) (yieldsIf_load_mid (by rfl) 22 _ rfl _ _ rfl (ints (tub ns p)) _ (fun w' hSw => hSw.1.holds.sub (p * 4) 4) Try.underlying22 rfl (hi1)) hHeld ?_; (try simp only [List.getElem_toArray, List.getElem_cons_zero, List.getElem_cons_succ, Act.put, List.setIfInBounds_toArray, List.set_cons_zero, List.set_cons_succ]))
    (refine wpAnyH_take (i := 8) (v := ?_) rfl (by kernel_rfl) (by kernel_rfl) (by kernel_rfl) (fun _ _ _ h => h) (Or.inl ⟨by rfl, ?_⟩) hHeld ?_; rotate_left; (· (intro w' hSw; go_simp; try with_reducible rfl)); (try simp only [List.getElem_toArray, List.getElem_cons_zero, List.getElem_cons_succ, Act.put, List.setIfInBounds_toArray, List.set_cons_zero, List.set_cons_succ]))
    (refine wpAnyH_take (i := 9) (v := .int .i64 (q : Int)) rfl (by kernel_rfl) (by kernel_rfl) (by kernel_rfl) (fun _ _ _ h => h) (Or.inl ⟨by rfl, ?_⟩) hHeld ?_; (· (intro w' hSw; have q := hSw.2.cellXg (k := 1) (x := (q : Int)) (by omega) YH.out; clear hSw; go_simp; try with_reducible rfl)); (try simp only [List.getElem_toArray, List.getElem_cons_zero, List.getElem_cons_succ, Act.put, List.setIfInBounds_toArray, List.set_cons_zero, List.set_cons_succ]))
    (refine wpAnyH_take (i := 10) (v := ?_) rfl (by kernel_rfl) (by kernel_rfl) (by kernel_rfl) (fun _ _ _ h => h) (Or.inl ⟨by rfl, ?_⟩) hHeld ?_; rotate_left; (· (intro w' hSw; go_simp; try with_reducible rfl)); (try simp only [List.getElem_toArray, List.getElem_cons_zero, List.getElem_cons_succ, Act.put, List.setIfInBounds_toArray, List.set_cons_zero, List.set_cons_succ])); (refine wpAnyH_take (i := 11) (v := ?_) rfl (by kernel_rfl) (by kernel_rfl) (by kernel_rfl) (fun _ _ _ h => h) (Or.inl ⟨by rfl, ?_⟩) hHeld ?_; rotate_left; (· (intro w' hSw; go_simp; try with_reducible rfl)); (try simp only [List.getElem_toArray, List.getElem_cons_zero, List.getElem_cons_succ, Act.put, List.setIfInBounds_toArray, List.set_cons_zero, List.set_cons_succ]))
    (refine wpAnyH_take (i := 12) (v := _) rfl (by kernel_rfl) (by kernel_rfl) (by kernel_rfl) (fun _ _ _ h => h) (yieldsIf_load_mid (by rfl) 22 _ rfl _ _ rfl (ints (tub ns q)) _ (fun w' hSw => hSw.1.holds.sub (q * 4) 4) Try.underlying22 rfl (hi2)) hHeld ?_; (try simp only [List.getElem_toArray, List.getElem_cons_zero, List.getElem_cons_succ, Act.put, List.setIfInBounds_toArray, List.set_cons_zero, List.set_cons_succ]))
    (refine wpAnyH_ready (rs := [13]) (by kernel_rfl) (by simp) ?_; refine AllReadyH.cons (o := _) rfl (fun K hK => ?_) AllReadyH.nil; (simp only [List.getElem_toArray, List.getElem_cons_zero, List.getElem_cons_succ, Region.wanted, if_true]))
    go_simp
    refine (isIdle_any (tub ns p) (tub ns q) _ sA sB vp vq).mono ?_
    rintro e w2 ⟨rfl, b2⟩
    rw [← idleB]
    dsimp only
    (try simp only [List.getElem_toArray, List.getElem_cons_zero, List.getElem_cons_succ, Act.put, List.setIfInBounds_toArray, List.set_cons_zero, List.set_cons_succ])
    refine hK.out _ _ ⟨hHeld.1.below b2, hHeld.2.below b2⟩ (fun hHeld => ?_)
    clear hK K
    have hHeld2 := hHeld
    (refine wpAnyH_take (i := 14) (v := ?_) rfl (by kernel_rfl) (by kernel_rfl) (by kernel_rfl) (fun _ _ _ h => h) (Or.inl ⟨by rfl, ?_⟩) hHeld ?_; rotate_left; (· (intro w' hSw; go_simp; try with_reducible rfl)); (try simp only [List.getElem_toArray, List.getElem_cons_zero, List.getElem_cons_succ, Act.put, List.setIfInBounds_toArray, List.set_cons_zero, List.set_cons_succ]))
    refine wpAnyH_done (by kernel_rfl) ?_ _
    replace HX := HX.drew.below b2
    replace Z := Z.drew.below b2
    replace HB := Lib.hid ((keptDrew8G HB.out).call b2)
    replace HP := hHeld2.2
    clear hHeld hHeld2 H b2
    cases hid : idl ns p q with
    | true =>
      have EO3 : Hid (tbOk ns x y = false) := Lib.hid (by rw [EO2.out, hid]; rfl)
      have ER2 : Hid (tbR ns x y = z26) := Lib.hid (by rw [ER.out, if_neg (by rw [EO3.out]; simp)])
      have S1 := Lib.hid (Z.putAll z26 rfl)
      have S2 := Lib.hid (HB.out.puts (b := w.heap.size + 1 + 1) (by omega) 0 (ints z26))
      clear hid hx hy
      go_wp2_with (first | (refine build_law rfl 59 rfl _ buildTurnZ ?_) | (refine store_at rfl 59 _ _ rfl _ _ rfl rfl ?_ 26 ?_ ?_ ?_ ?_; rotate_left; (· (repeat (first | (with_reducible assumption) | ((with_reducible refine Has.box _ _ ?_ ?_) <;> (first | assumption | decide)) | (with_reducible refine Has.alloc ?_ _) | ((with_reducible refine Has.putOther ?_ _ _ ?_); rotate_left; omega; skip) | ((with_reducible refine Has.below ?_ ?_); rotate_left; assumption)))); (· (first | assumption | rfl)); (· kernel_rfl)))
      exact bodyPost_ret (res_has1 rfl _ _ (w.heap.size + 1 + 1) z26 26 _ (.bool false) rfl rfl S1.out Try.underlying59 rfl (by kernel_rfl)) rfl ⟨by rw [ER2.out, EO3.out], S2.out⟩
    | false =>
      have EO3 : Hid (tbOk ns x y = true) := Lib.hid (by rw [EO2.out, hid]; rfl)
      have ER2 : Hid (tbR ns x y = x :: y :: t) := Lib.hid (by rw [ER.out, if_pos EO3.out])
      have l26 : (x :: y :: t).length = 26 := by rw [List.length_cons, List.length_cons, hT]
      have S1 := Lib.hid (Z.putAll (x :: y :: t) l26)
      have S2 := Lib.hid (HB.out.puts (b := w.heap.size + 1 + 1) (by omega) 0 (ints (x :: y :: t)))
      clear hid hx hy
      go_wp2_with (first | (refine load_has rfl 51 _ rfl _ rfl ?_ 2 ?_ _ Try.underlying51 rfl ?_ ?_; rotate_left; (· (repeat (first | (with_reducible assumption) | ((with_reducible refine Has.box _ _ ?_ ?_) <;> (first | assumption | decide)) | (with_reducible refine Has.alloc ?_ _) | ((with_reducible refine Has.putOther ?_ _ _ ?_); rotate_left; omega; skip) | ((with_reducible refine Has.below ?_ ?_); rotate_left; assumption)))); (· kernel_rfl)) | (refine load_has rfl 30 _ rfl _ rfl ?_ 24 ?_ _ Try.underlying30 rfl ?_ ?_; rotate_left; (· (repeat (first | (with_reducible assumption) | ((with_reducible refine Has.box _ _ ?_ ?_) <;> (first | assumption | decide)) | (with_reducible refine Has.alloc ?_ _) | ((with_reducible refine Has.putOther ?_ _ _ ?_); rotate_left; omega; skip) | ((with_reducible refine Has.below ?_ ?_); rotate_left; assumption)))); (· kernel_rfl)) | (refine build_two rfl 59 _ _ rfl (.agg (ints [x, y]).toArray) (.agg (ints t).toArray) _ rfl rfl (buildTurn x y t hT) ?_) | (refine store_at rfl 59 _ _ rfl _ _ rfl rfl ?_ 26 ?_ ?_ ?_ ?_; rotate_left; (· (repeat (first | (with_reducible assumption) | ((with_reducible refine Has.box _ _ ?_ ?_) <;> (first | assumption | decide)) | (with_reducible refine Has.alloc ?_ _) | ((with_reducible refine Has.putOther ?_ _ _ ?_); rotate_left; omega; skip) | ((with_reducible refine Has.below ?_ ?_); rotate_left; assumption)))); (· (first | assumption | rfl)); (· kernel_rfl)))
      exact bodyPost_ret (res_has1 rfl _ _ (w.heap.size + 1 + 1) (x :: y :: t) 26 _ (.bool true) rfl rfl S1.out Try.underlying59 rfl (by kernel_rfl)) rfl ⟨by rw [ER2.out, EO3.out], S2.out⟩
end Go.Proofs.Ytalngdccjoafhab.base
