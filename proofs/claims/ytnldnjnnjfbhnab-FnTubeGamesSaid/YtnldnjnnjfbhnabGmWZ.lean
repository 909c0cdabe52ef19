/-
  Games on the program's side, walked: complete tubes, turns, what a turn completes.
-/
/-
  Games on the program's side, walked: the row of turns, points, whether a tube can be completed, whether a rack is lost.
-/
import Derived.Test.YtnldnjnnjfbhnabGmM
import Derived.Test.YtnldnjnnjfbhnabUseI
import Derived.Test.YtnldnjnnjfbhnabBackMZ
import Derived.Test.YtnldnjnnjfbhnabGridZ
import Derived.Test.YtnldnjnnjfbhnabRwZ
import Derived.Test.YtnldnjnnjfbhnabNu
import Derived.Deep.Cut
import Derived.Deep.CutRange

section
namespace Go.Proofs.Ytnldnjnnjfbhnab.base
open Go.ChangeShapes Go.WideShapes Go.ChangeAt Go.RowKit
set_option linter.unusedVariables false
set_option linter.unusedSimpArgs false

section
variable {P : Program} {ops : Array Oper} {rest : List Oper} {op : Oper} {a : Act} {w : World} {Q : Exit → Act → World → Prop}
/-- A part of a block of numbers is loaded. -/
theorem load_sub (hw : Region.wanted op (yielded ops a.tmps) = true) (T : TypeId) (x : Operand) (ho : op.op = .load T x) (b k m o : Nat) (hx : a.eval x = .pointer (some ⟨b, o, none⟩)) (hko : o = k) (vs : List Int) (n : Nat) (H : Has w b vs n) (ms : List Int) (hm : (vs.drop k).take m = ms) (hl : ms.length = m)
    (d : TypeDesc) (hu : P.underlying T = some d) (hd : d.isRow = true) (hi : (P.info? T).map (·.size) = some m)
    (h : wpList P ops Q rest (a.put op.dst (.agg (ints ms).toArray)) w) : wpList P ops Q (op :: rest) a w := by
  subst hko
  exact wpList_wanted hw fun _ hK => wp_load_mid T x ho b o hx (ints ms) d (by rw [← hm]; exact H.holds.sub o m) hu hd (by rw [ints_len, hl]; exact hi) (hK _ _ h)
theorem build_two (hw : Region.wanted op (yielded ops a.tmps) = true) (T : TypeId) (x y : Operand) (ho : op.op = .build T #[(0, x), (1, y)]) (u u2 v : Value) (hx : a.eval x = u) (hy : a.eval y = u2)
    (hq : ∀ w, (Instr.build T #[(0, u), (1, u2)]).run P w = .ok v w)
    (h : wpList P ops Q rest (a.put op.dst v) w) : wpList P ops Q (op :: rest) a w :=
  wpList_wanted hw fun _ hK => by
    unfold Oper.wp execOp
    simp only [ho, hx, hy, Sem.run_bind, List.map_toArray, List.map_cons, List.map_nil, hq, Result.andThen_ok, Sem.run_pure]
    exact hK _ _ h
end
theorem Has.cellXg {w : World} {b n k : Nat} {ns : List Int} {x : Int} (h : Has w b ns n) (hk : k < n) (hx : ns.getD k 0 = x) : w.cell? ⟨b, k, none⟩ = some (.int .i64 x) := by rw [h.cell k hk, hx]
theorem keptDrew8G {w W : World} (h : Kept w W) : Kept w W.drew := ⟨h.os, h.tape, h.output, h.size, h.block⟩
def z26 : List Int := List.replicate 26 0
theorem Has.zero26 (w : World) (T : TypeId) : Has (w.alloc (.cells #[.int .i64 0, .int .i64 0, .int .i64 0, .int .i64 0, .int .i64 0, .int .i64 0, .int .i64 0, .int .i64 0, .int .i64 0, .int .i64 0, .int .i64 0, .int .i64 0, .int .i64 0, .int .i64 0, .int .i64 0, .int .i64 0, .int .i64 0, .int .i64 0, .int .i64 0, .int .i64 0, .int .i64 0, .int .i64 0, .int .i64 0, .int .i64 0, .int .i64 0, .int .i64 0] T)) w.heap.size z26 26 := Has.box (ns := z26) w T rfl (by decide)
theorem buildTurnZ (w : World) : (Instr.build 69 #[]).run Try.prog w = .ok (.agg (ints z26).toArray) w := by kernel_rfl
set_option maxRecDepth 100000 in
theorem buildTurn (x y : Int) (ns : List Int) (h : ns.length = 24) (w : World) : (Instr.build 69 #[(0, .agg (ints [x, y]).toArray), (1, .agg (ints ns).toArray)]).run Try.prog w = .ok (.agg (ints (x :: y :: ns)).toArray) w := by
  match ns, h with
  | [a0, a1, a2, a3, a4, a5, a6, a7, a8, a9, a10, a11, a12, a13, a14, a15, a16, a17, a18, a19, a20, a21, a22, a23], _ => exact run_build w _ _ _ (by kernel_rfl)
theorem trn_rack (x y : Int) (t : List Int) (h : t.length = 24) : ((x :: y :: t).drop 2).take 24 = t := by
  show t.take 24 = t
  rw [List.take_of_length_le (by omega)]
theorem trn_tub (x y : Int) (t : List Int) (q : Nat) : ((x :: y :: t).drop (2 + q * 4)).take 4 = tub t q := by
  rw [show 2 + q * 4 = (q * 4 + 1) + 1 by omega, List.drop_succ_cons, List.drop_succ_cons]; rfl

theorem isComplete_any (t : List Int) (w : World) (h4 : t.length = 4) (hv : vT t = true) :
    Calls Try.prog 45 #[row t] w fun e w' => e = .returned (.bool (decide (topN t = 4))) ∧ Kept w w' := by
  have F := tubeFacts h4 hv
  have hL := F.lay4
  have hN := F.topN
  have HB := Lib.hid ((kept_refl w).alloc (.cells (ints t).toArray 77))
  have H := Has.box w 77 h4 (by omega)
  have KP := Lib.hid (fun W => isPlain_any t W h4 hv)
  clear F
  rw [row_ints]
  go_enter Try.func45, Try.ntmps45
  go_wp2_with (refine load_has rfl 77 _ rfl _ rfl ?_ 4 ?_ _ Try.underlying77 rfl ?_ ?_; rotate_left; (· (repeat (first | (with_reducible assumption) | ((with_reducible refine Has.box _ _ ?_ ?_) <;> (first | assumption | decide)) | (with_reducible refine Has.alloc ?_ _) | ((with_reducible refine Has.putOther ?_ _ _ ?_); rotate_left; omega; skip) | ((with_reducible refine Has.below ?_ ?_); rotate_left; assumption)))); (· kernel_rfl))
  refine (room_any t _ h4 hv).mono ?_
  rintro e w1 ⟨rfl, b1⟩
  replace H := H.below b1
  replace HB := Lib.hid (HB.out.call b1)
  clear b1
  by_cases h : lay t = 4
  · have E := Lib.hid h
    rw [h] at hN ⊢
    clear h hL
    go_wp2_with (refine load_has rfl 77 _ rfl _ rfl ?_ 4 ?_ _ Try.underlying77 rfl ?_ ?_; rotate_left; (· (repeat (first | (with_reducible assumption) | ((with_reducible refine Has.box _ _ ?_ ?_) <;> (first | assumption | decide)) | (with_reducible refine Has.alloc ?_ _) | ((with_reducible refine Has.putOther ?_ _ _ ?_); rotate_left; omega; skip) | ((with_reducible refine Has.below ?_ ?_); rotate_left; assumption)))); (· kernel_rfl))
    refine (KP.out _).mono ?_
    rintro e w2 ⟨rfl, b2⟩
    rw [E.out]
    replace HB := Lib.hid (HB.out.call b2)
    clear b2
    go_wp2_with fail
    go_ret
    exact ⟨rfl, HB.out⟩
  · have e1 : ((4 - (lay t : Int)) == 0) = false := by simp; omega
    have E := Lib.hid (show decide (topN t = 4) = false by rw [decide_eq_false_iff_not]; omega)
    clear h hN
    generalize lay t = L at *
    go_wp2_with fail
    go_ret
    exact ⟨by rw [E.out]; rfl, HB.out⟩

def cmFA (ns : List Int) : List Int := if vR ns = true then cmpl ns 6 else []
def CmPost (ns : List Int) (w : World) (e : Ending) (w' : World) : Prop := ∃ v : Value, e = .returned (.tuple #[v, .bool (vR ns)]) ∧ Nu w' w.heap.size v (cmFA ns).length (cmFA ns) ∧ Kept w w'
theorem nu_none0 (w : World) (b : Nat) (hb : b ≤ w.heap.size) : Nu (w.alloc (.cells #[] 3)) b (.slice (some ⟨w.heap.size, 0, Option.none⟩) 0 0) 0 [] := by
  have := World.ownsRow_made (base := b) (e := 3) (size := 1) w #[] 0 hb (by unfold maxLen; omega) (by simp)
  simpa [Nu, ints] using this
theorem ints_more0 (xs : List Int) (x : Int) : ints (xs ++ [x]) = ints xs ++ [.int .i64 x] := by unfold ints; rw [List.map_append]; rfl

set_option maxHeartbeats 1600000 in
set_option maxRecDepth 100000 in
theorem implComplete (ns : List Int) (w : World) (h24 : ns.length = 24) :
    Calls Try.prog 18 #[row ns] w (CmPost ns w) := by
  obtain ⟨i0, hi, hz0, hz1, hz2⟩ := infoN_parts infoN
  have HB := Lib.hid (((kept_refl w).alloc (.cells (ints ns).toArray 27)).alloc (.cells #[] 3))
  have H := (Has.box w 27 h24 (by omega)).alloc (.cells #[] 3)
  have P0 := Lib.hid (by have := nu_none0 (w.alloc (.cells (ints ns).toArray 27)) w.heap.size (by simp); rwa [size1] at this)
  rw [row_ints]
  go_enter Try.func18, Try.ntmps18
  go_wp2_with (refine load_has rfl 27 _ rfl _ rfl ?_ 24 ?_ _ Try.underlying27 rfl ?_ ?_; rotate_left; (· (repeat (first | (with_reducible assumption) | ((with_reducible refine Has.box _ _ ?_ ?_) <;> (first | assumption | decide)) | (with_reducible refine Has.alloc ?_ _) | ((with_reducible refine Has.putOther ?_ _ _ ?_); rotate_left; omega; skip) | ((with_reducible refine Has.below ?_ ?_); rotate_left; assumption)))); (· kernel_rfl))
  refine (isRack_any ns _ h24).mono ?_
  rintro e w1 ⟨rfl, b1⟩
  replace H := H.below b1
  replace HB := Lib.hid (HB.out.call b1)
  replace P0 := Lib.hid (P0.out.below b1)
  clear b1
  by_cases hv : vR ns = true
  rotate_left
  · have hf : vR ns = false := by simpa using hv
    have E := Lib.hid hf
    have Z := Lib.hid (show cmFA ns = [] by unfold cmFA; rw [if_neg hv])
    rw [hf]
    clear hf hv
    go_wp2_with fail
    go_ret2
    exact ⟨_, by rw [E.out]; rfl, by rw [Z.out]; exact P0.out, HB.out⟩
  rw [hv]
  have E := Lib.hid hv
  have Z := Lib.hid (show cmFA ns = cmpl ns 6 by unfold cmFA; rw [if_pos hv])
  have H24 := Lib.hid h24
  have P1 : Hid (Nu w1 w.heap.size (.slice (some ⟨w.heap.size + 1, 0, none⟩) 0 0) (cmpl ns 0).length (cmpl ns 0)) := Lib.hid P0.out
  clear h24 hv P0
  go_wp2_with (refine load_has rfl 25 _ rfl _ rfl ?_ 24 ?_ _ Try.underlying25 rfl ?_ ?_; rotate_left; (· (repeat (first | (with_reducible assumption) | ((with_reducible refine Has.box _ _ ?_ ?_) <;> (first | assumption | decide)) | (with_reducible refine Has.alloc ?_ _) | ((with_reducible refine Has.putOther ?_ _ _ ?_); rotate_left; omega; skip) | ((with_reducible refine Has.below ?_ ?_); rotate_left; assumption)))); (· kernel_rfl))
  clear H
  go_loopw [4, 14] (fun u i wr => ∃ p : Nat, p ≤ 6 ∧ i = .int .i64 p ∧ Hid (Nu wr w.heap.size u (cmpl ns p).length (cmpl ns p)) ∧ Hid (Kept w wr)) (fun _ z _ => 6 - (intOf z).toNat)
  case atStart => exact ⟨0, by omega, rfl, P1, HB⟩
  case round =>
    clear P1 HB
    obtain ⟨p, hp, rfl, GU, GB⟩ := hrel
    rcases Nat.lt_or_ge p 6 with hp6 | hge
    · have hpi : (p : Int) < 6 := by omega
      have h4 := tub_len ns p H24.out hp6
      have hvt := vR_tub E.out p hp6
      have ML := cmpl_le ns p
      have YES := Lib.hid (fun h => cmpl_yes (ns := ns) (k := p) h)
      have NO := Lib.hid (fun h => cmpl_no (ns := ns) (k := p) h)
      have g0 := indexTub ns p hp6
      have HT := Has.box wr 24 h4 (by omega)
      replace GU := Lib.hid (GU.out.alloc (.cells (ints (tub ns p)).toArray 24))
      replace GB := Lib.hid (GB.out.alloc (.cells (ints (tub ns p)).toArray 24))
      go_wp2_with (first | (refine store_new rfl 24 _ _ rfl _ _ _ rfl _ rfl _ rfl rfl ?_ ?_ ?_; (· (first | assumption | rfl)); (· kernel_rfl)) | (refine load_has rfl 24 _ rfl _ rfl ?_ 4 ?_ _ Try.underlying24 rfl ?_ ?_; rotate_left; (· (repeat (first | (with_reducible assumption) | ((with_reducible refine Has.box _ _ ?_ ?_) <;> (first | assumption | decide)) | (with_reducible refine Has.alloc ?_ _) | ((with_reducible refine Has.putOther ?_ _ _ ?_); rotate_left; omega; skip) | ((with_reducible refine Has.below ?_ ?_); rotate_left; assumption)))); (· kernel_rfl)))
      refine (isComplete_any (tub ns p) _ h4 hvt).mono ?_
      rintro e w3 ⟨rfl, b3⟩
      replace GU := Lib.hid (GU.out.below b3)
      replace GB := Lib.hid (GB.out.call b3)
      clear b3 hvt h4 g0 HT
      by_cases he : topN (tub ns p) = 4
      · rw [decide_eq_true he]
        have SN := Lib.hid (YES.out he)
        have hbs := GB.out.size
        have owu := Lib.hid (fun z hz => (GU.out.own z hz))
        clear YES NO he
        generalize cmpl ns p = M at *
        go_wp2_with (first | (at_builtin; refine wpList_append_own _ rfl _ _ 43 rfl w.heap.size 3 i0 (.int .i64 0) 1 8 Try.underlying43 hi hz0 hz1 hz2 rfl (by decide) _ M.length (ints M) rfl (World.ownsRow.alloc GU.out _) ⟨w3.heap.size, 0, none⟩ 1 1 [.int .i64 (p : Int)] rfl rfl (cell_one_new _ _ _) (fun x hx => by simp at hx; subst hx; rfl) (by unfold maxLen; omega) (by omega) (by simp; omega) ?_; intro v' w6 hown' hgrow3 hnil3))
        have F3 := Lib.hid (show Kept w w6 from (GB.out.alloc (.cells #[.int .i64 (p : Int)] 3)).grown hgrow3 (by rw [size1]; omega) (fun j hj => by have := (owu.out j hj).1; omega))
        have F4 : Hid (Nu w6 w.heap.size v' (cmpl ns (p + 1)).length (cmpl ns (p + 1))) := Lib.hid (by rw [SN.out, List.length_append]; unfold Nu; rw [ints_more0]; exact hown')
        clear hown' hgrow3 hnil3 GU GB owu
        go_wp2_with fail
        go_roundw
        case rel => exact ⟨p + 1, by omega, by go_num, F4, F3⟩
        case measure => simp [intOf]; omega
      · rw [decide_eq_false he]
        have SN := Lib.hid (NO.out he)
        clear YES NO he
        go_wp2_with fail
        go_roundw
        case rel => exact ⟨p + 1, by omega, by go_num, by rw [SN.out]; exact GU, GB⟩
        case measure => simp [intOf]; omega
    · obtain rfl : p = 6 := by omega
      go_wp2_with fail
      go_ret2
      exact ⟨_, by rw [E.out]; rfl, by rw [Z.out]; exact GU.out, GB.out⟩

/-! turns -/
def tbOk (ns : List Int) (x y : Int) : Bool := pourOk ns x y && !idl ns x.toNat y.toNat
def tbR (ns : List Int) (x y : Int) : List Int := if tbOk ns x y = true then x :: y :: pourR ns x y else z26
theorem tbR_len {ns : List Int} (h : ns.length = 24) (x y : Int) : (tbR ns x y).length = 26 := by
  unfold tbR
  split
  · rw [List.length_cons, List.length_cons, pourR_len h]
  · rfl
theorem pour_places {ns : List Int} {x y : Int} (h : pourOk ns x y = true) : vR ns = true ∧ ∃ p q : Nat, x = (p : Int) ∧ y = (q : Int) ∧ p < 6 ∧ q < 6 ∧ p ≠ q := by
  have h2 : twoOk ns x y = true := by unfold pourOk at h; exact (Bool.and_eq_true_iff.1 h).1
  obtain ⟨hv, p, q, e1, e2, hp, hq, hne⟩ := twoOk_of h2
  exact ⟨hv, p, q, e1, e2, hp, hq, hne⟩

set_option maxHeartbeats 1600000 in
set_option maxRecDepth 100000 in
theorem turnBy_any (ns : List Int) (x y : Int) (w : World) (h24 : ns.length = 24) :
    Calls Try.prog 40 #[row ns, row [x, y]] w fun e w' => e = .returned (.tuple #[row (tbR ns x y), .bool (tbOk ns x y)]) ∧ Kept w w' := by
  have HB := Lib.hid ((((kept_refl w).alloc (.cells (ints ns).toArray 27)).alloc (.cells (ints [x, y]).toArray 36)).alloc (.cells #[.int .i64 0, .int .i64 0, .int .i64 0, .int .i64 0, .int .i64 0, .int .i64 0, .int .i64 0, .int .i64 0, .int .i64 0, .int .i64 0, .int .i64 0, .int .i64 0, .int .i64 0, .int .i64 0, .int .i64 0, .int .i64 0, .int .i64 0, .int .i64 0, .int .i64 0, .int .i64 0, .int .i64 0, .int .i64 0, .int .i64 0, .int .i64 0, .int .i64 0, .int .i64 0] 69))
  have H := ((Has.box w 27 h24 (by omega)).alloc (.cells (ints [x, y]).toArray 36)).alloc (.cells #[.int .i64 0, .int .i64 0, .int .i64 0, .int .i64 0, .int .i64 0, .int .i64 0, .int .i64 0, .int .i64 0, .int .i64 0, .int .i64 0, .int .i64 0, .int .i64 0, .int .i64 0, .int .i64 0, .int .i64 0, .int .i64 0, .int .i64 0, .int .i64 0, .int .i64 0, .int .i64 0, .int .i64 0, .int .i64 0, .int .i64 0, .int .i64 0, .int .i64 0, .int .i64 0] 69)
  have HP := ((Has.box (ns := [x, y]) (n := 2) (w.alloc (.cells (ints ns).toArray 27)) 36 rfl (by omega)).at (size1 _ _)).alloc (.cells #[.int .i64 0, .int .i64 0, .int .i64 0, .int .i64 0, .int .i64 0, .int .i64 0, .int .i64 0, .int .i64 0, .int .i64 0, .int .i64 0, .int .i64 0, .int .i64 0, .int .i64 0, .int .i64 0, .int .i64 0, .int .i64 0, .int .i64 0, .int .i64 0, .int .i64 0, .int .i64 0, .int .i64 0, .int .i64 0, .int .i64 0, .int .i64 0, .int .i64 0, .int .i64 0] 69)
  have Z := (Has.zero26 ((w.alloc (.cells (ints ns).toArray 27)).alloc (.cells (ints [x, y]).toArray 36)) 69).at (c := w.heap.size + 1 + 1) (by simp)
  have hT := pourR_len h24 x y
  have H24 := Lib.hid h24
  have KP := Lib.hid (fun W => implPour ns x y W h24)
  have hb0 := tbR_len h24 x y
  have EO : Hid (tbOk ns x y = (pourOk ns x y && !idl ns x.toNat y.toNat)) := Lib.hid rfl
  have ER : Hid (tbR ns x y = if tbOk ns x y = true then x :: y :: pourR ns x y else z26) := Lib.hid rfl
  have c0 := HP.cellXg (k := 0) (x := x) (by omega) rfl
  have c1 := HP.cellXg (k := 1) (x := y) (by omega) rfl
  rw [row_ints, row_ints, row_ints]
  go_enter Try.func40, Try.ntmps40
  go_wp2_with (refine load_has rfl 27 _ rfl _ rfl ?_ 24 ?_ _ Try.underlying27 rfl ?_ ?_; rotate_left; (· (repeat (first | (with_reducible assumption) | ((with_reducible refine Has.box _ _ ?_ ?_) <;> (first | assumption | decide)) | (with_reducible refine Has.alloc ?_ _) | ((with_reducible refine Has.putOther ?_ _ _ ?_); rotate_left; omega; skip) | ((with_reducible refine Has.below ?_ ?_); rotate_left; assumption)))); (· kernel_rfl))
  refine (KP.out _).mono ?_
  rintro e w1 ⟨rfl, b1⟩
  obtain ⟨t, ht⟩ : ∃ t, pourR ns x y = t := ⟨_, rfl⟩
  rw [ht] at hT ER ⊢
  have hs1 := b1.size
  simp only [size1] at hs1
  have HX := Has.box w1 27 hT (by omega)
  replace H := (H.below b1).alloc (.cells (ints t).toArray 27)
  replace HP := (HP.below b1).alloc (.cells (ints t).toArray 27)
  replace Z := (Z.below b1).alloc (.cells (ints t).toArray 27)
  replace HB := Lib.hid ((HB.out.call b1).alloc (.cells (ints t).toArray 27))
  clear b1 KP c0 c1
  cases hok : pourOk ns x y with
  | false =>
    have EO2 : Hid (tbOk ns x y = false) := Lib.hid (by rw [EO.out, hok]; rfl)
    have ER2 : Hid (tbR ns x y = z26) := Lib.hid (by rw [ER.out, if_neg (by rw [EO2.out]; simp)])
    generalize pourA ns x y = pa at *
    clear hok ht
    go_upto_region 2 with (refine store_new rfl 27 _ _ rfl _ _ _ rfl _ rfl _ rfl rfl ?_ ?_ ?_; (· (first | assumption | rfl)); (· kernel_rfl))
    obtain ⟨xb, hxb⟩ : ∃ xb, w1.heap.size = xb := ⟨_, rfl⟩
    rw [hxb] at HX hs1 ⊢
    generalize w1.alloc (.cells (ints t).toArray 27) = W at *
    clear hxb
    refine wp_region_held_drew (S := fun w' => Has w' w.heap.size ns 24) (by kernel_rfl) H.drew (fun hHeld => ?_)
    (refine wpAnyH_take (i := 0) (v := ?_) rfl (by kernel_rfl) (by kernel_rfl) (by kernel_rfl) (fun _ _ _ h => h) (Or.inl ⟨by rfl, ?_⟩) hHeld ?_; rotate_left; (· (intro w' hSw; go_simp; try with_reducible rfl)); (try simp only [List.getElem_toArray, List.getElem_cons_zero, List.getElem_cons_succ, Act.put, List.setIfInBounds_toArray, List.set_cons_zero, List.set_cons_succ])); (refine wpAnyH_take (i := 1) (v := ?_) rfl (by kernel_rfl) (by kernel_rfl) (by kernel_rfl) (fun _ _ _ h => h) (Or.inl ⟨by rfl, ?_⟩) hHeld ?_; rotate_left; (· (intro w' hSw; go_simp; try with_reducible rfl)); (try simp only [List.getElem_toArray, List.getElem_cons_zero, List.getElem_cons_succ, Act.put, List.setIfInBounds_toArray, List.set_cons_zero, List.set_cons_succ])); (refine wpAnyH_take (i := 2) (v := ?_) rfl (by kernel_rfl) (by kernel_rfl) (by kernel_rfl) (fun _ _ _ h => h) (Or.inl ⟨by rfl, ?_⟩) hHeld ?_; rotate_left; (· (intro w' hSw; go_simp; try with_reducible rfl)); (try simp only [List.getElem_toArray, List.getElem_cons_zero, List.getElem_cons_succ, Act.put, List.setIfInBounds_toArray, List.set_cons_zero, List.set_cons_succ]))
    (refine wpAnyH_take (i := 3) (v := undef) rfl (by kernel_rfl) (by kernel_rfl) (by kernel_rfl) (fun _ _ _ h => h) (Or.inr ⟨by rfl, rfl⟩) hHeld ?_; (try simp only [List.getElem_toArray, List.getElem_cons_zero, List.getElem_cons_succ, Act.put, List.setIfInBounds_toArray, List.set_cons_zero, List.set_cons_succ])); (refine wpAnyH_take (i := 4) (v := undef) rfl (by kernel_rfl) (by kernel_rfl) (by kernel_rfl) (fun _ _ _ h => h) (Or.inr ⟨by rfl, rfl⟩) hHeld ?_; (try simp only [List.getElem_toArray, List.getElem_cons_zero, List.getElem_cons_succ, Act.put, List.setIfInBounds_toArray, List.set_cons_zero, List.set_cons_succ])); (refine wpAnyH_take (i := 5) (v := undef) rfl (by kernel_rfl) (by kernel_rfl) (by kernel_rfl) (fun _ _ _ h => h) (Or.inr ⟨by rfl, rfl⟩) hHeld ?_; (try simp only [List.getElem_toArray, List.getElem_cons_zero, List.getElem_cons_succ, Act.put, List.setIfInBounds_toArray, List.set_cons_zero, List.set_cons_succ])); (refine wpAnyH_take (i := 6) (v := undef) rfl (by kernel_rfl) (by kernel_rfl) (by kernel_rfl) (fun _ _ _ h => h) (Or.inr ⟨by rfl, rfl⟩) hHeld ?_; (try simp only [List.getElem_toArray, List.getElem_cons_zero, List.getElem_cons_succ, Act.put, List.setIfInBounds_toArray, List.set_cons_zero, List.set_cons_succ])); (refine wpAnyH_take (i := 7) (v := undef) rfl (by kernel_rfl) (by kernel_rfl) (by kernel_rfl) (fun _ _ _ h => h) (Or.inr ⟨by rfl, rfl⟩) hHeld ?_; (try simp only [List.getElem_toArray, List.getElem_cons_zero, List.getElem_cons_succ, Act.put, List.setIfInBounds_toArray, List.set_cons_zero, List.set_cons_succ])); (refine wpAnyH_take (i := 8) (v := undef) rfl (by kernel_rfl) (by kernel_rfl) (by kernel_rfl) (fun _ _ _ h => h) (Or.inr ⟨by rfl, rfl⟩) hHeld ?_; (try simp only [List.getElem_toArray, List.getElem_cons_zero, List.getElem_cons_succ, Act.put, List.setIfInBounds_toArray, List.set_cons_zero, List.set_cons_succ])); (refine wpAnyH_take (i := 9) (v := undef) rfl (by kernel_rfl) (by kernel_rfl) (by kernel_rfl) (fun _ _ _ h => h) (Or.inr ⟨by rfl, rfl⟩) hHeld ?_; (try simp only [List.getElem_toArray, List.getElem_cons_zero, List.getElem_cons_succ, Act.put, List.setIfInBounds_toArray, List.set_cons_zero, List.set_cons_succ])); (refine wpAnyH_take (i := 10) (v := undef) rfl (by kernel_rfl) (by kernel_rfl) (by kernel_rfl) (fun _ _ _ h => h) (Or.inr ⟨by rfl, rfl⟩) hHeld ?_; (try simp only [List.getElem_toArray, List.getElem_cons_zero, List.getElem_cons_succ, Act.put, List.setIfInBounds_toArray, List.set_cons_zero, List.set_cons_succ])); (refine wpAnyH_take (i := 11) (v := undef) rfl (by kernel_rfl) (by kernel_rfl) (by kernel_rfl) (fun _ _ _ h => h) (Or.inr ⟨by rfl, rfl⟩) hHeld ?_; (try simp only [List.getElem_toArray, List.getElem_cons_zero, List.getElem_cons_succ, Act.put, List.setIfInBounds_toArray, List.set_cons_zero, List.set_cons_succ])); (refine wpAnyH_take (i := 12) (v := undef) rfl (by kernel_rfl) (by kernel_rfl) (by kernel_rfl) (fun _ _ _ h => h) (Or.inr ⟨by rfl, rfl⟩) hHeld ?_; (try simp only [List.getElem_toArray, List.getElem_cons_zero, List.getElem_cons_succ, Act.put, List.setIfInBounds_toArray, List.set_cons_zero, List.set_cons_succ])); (refine wpAnyH_take (i := 13) (v := undef) rfl (by kernel_rfl) (by kernel_rfl) (by kernel_rfl) (fun _ _ _ h => h) (Or.inr ⟨by rfl, rfl⟩) hHeld ?_; (try simp only [List.getElem_toArray, List.getElem_cons_zero, List.getElem_cons_succ, Act.put, List.setIfInBounds_toArray, List.set_cons_zero, List.set_cons_succ]))
    (refine wpAnyH_take (i := 14) (v := ?_) rfl (by kernel_rfl) (by kernel_rfl) (by kernel_rfl) (fun _ _ _ h => h) (Or.inl ⟨by rfl, ?_⟩) hHeld ?_; rotate_left; (· (intro w' hSw; go_simp; try with_reducible rfl)); (try simp only [List.getElem_toArray, List.getElem_cons_zero, List.getElem_cons_succ, Act.put, List.setIfInBounds_toArray, List.set_cons_zero, List.set_cons_succ]))
    refine wpAnyH_done (by kernel_rfl) ?_ _
    have S1 := Lib.hid (Z.drew.putAll z26 rfl)
    have S2 := Lib.hid (keptDrew8G HB.out |>.puts (b := w.heap.size + 1 + 1) (by omega) 0 (ints z26))
    replace Z := Z.drew
    go_wp2_with (first | (refine build_law rfl 69 rfl _ buildTurnZ ?_) | (refine store_at rfl 69 _ _ rfl _ _ rfl rfl ?_ 26 ?_ ?_ ?_ ?_; rotate_left; (· (repeat (first | (with_reducible assumption) | ((with_reducible refine Has.box _ _ ?_ ?_) <;> (first | assumption | decide)) | (with_reducible refine Has.alloc ?_ _) | ((with_reducible refine Has.putOther ?_ _ _ ?_); rotate_left; omega; skip) | ((with_reducible refine Has.below ?_ ?_); rotate_left; assumption)))); (· (first | assumption | rfl)); (· kernel_rfl)))
    exact bodyPost_ret (res_has1 rfl _ _ (w.heap.size + 1 + 1) z26 26 _ (.bool false) rfl rfl S1.out Try.underlying69 rfl (by kernel_rfl)) rfl ⟨by rw [ER2.out, EO2.out], S2.out⟩
  | true =>
    obtain ⟨hv, p, q, hx, hy, hp, hq, hne⟩ := pour_places hok
    have EO2 : Hid (tbOk ns x y = !idl ns p q) := Lib.hid (by rw [EO.out, hok, hx, hy]; simp)
    generalize pourA ns x y = pa at *
    clear hok ht
    go_upto_region 2 with (refine store_new rfl 27 _ _ rfl _ _ _ rfl _ rfl _ rfl rfl ?_ ?_ ?_; (· (first | assumption | rfl)); (· kernel_rfl))
    obtain ⟨xb, hxb⟩ : ∃ xb, w1.heap.size = xb := ⟨_, rfl⟩
    rw [hxb] at HX hs1 ⊢
    generalize w1.alloc (.cells (ints t).toArray 27) = W at *
    clear hxb
    have hpi : (p : Int) < 6 := by omega
    have hqi : (q : Int) < 6 := by omega
    have hp0 : (0 : Int) ≤ (p : Int) := by omega
    have hq0 : (0 : Int) ≤ (q : Int) := by omega
    have sA := tub_len ns p h24 hp
    have sB := tub_len ns q h24 hq
    have vp := vR_tub hv p hp
    have vq := vR_tub hv q hq
    have hi1 : (Try.prog.info? 24).map (·.size) = some (ints (tub ns p)).length := by rw [ints_len, sA]; kernel_rfl
    have hi2 : (Try.prog.info? 24).map (·.size) = some (ints (tub ns q)).length := by rw [ints_len, sB]; kernel_rfl
    have XH := Lib.hid hx
    have YH := Lib.hid hy
    clear hv hne
    refine wp_region_held_drew (S := fun w' => Has w' w.heap.size ns 24 ∧ Has w' (w.heap.size + 1) [x, y] 2) (by kernel_rfl) ⟨H.drew, HP.drew⟩ (fun hHeld => ?_)
    (refine wpAnyH_take (i := 0) (v := ?_) rfl (by kernel_rfl) (by kernel_rfl) (by kernel_rfl) (fun _ _ _ h => h) (Or.inl ⟨by rfl, ?_⟩) hHeld ?_; rotate_left; (· (intro w' hSw; go_simp; try with_reducible rfl)); (try simp only [List.getElem_toArray, List.getElem_cons_zero, List.getElem_cons_succ, Act.put, List.setIfInBounds_toArray, List.set_cons_zero, List.set_cons_succ])); (refine wpAnyH_take (i := 1) (v := ?_) rfl (by kernel_rfl) (by kernel_rfl) (by kernel_rfl) (fun _ _ _ h => h) (Or.inl ⟨by rfl, ?_⟩) hHeld ?_; rotate_left; (· (intro w' hSw; go_simp; try with_reducible rfl)); (try simp only [List.getElem_toArray, List.getElem_cons_zero, List.getElem_cons_succ, Act.put, List.setIfInBounds_toArray, List.set_cons_zero, List.set_cons_succ])); (refine wpAnyH_take (i := 2) (v := ?_) rfl (by kernel_rfl) (by kernel_rfl) (by kernel_rfl) (fun _ _ _ h => h) (Or.inl ⟨by rfl, ?_⟩) hHeld ?_; rotate_left; (· (intro w' hSw; go_simp; try with_reducible rfl)); (try simp only [List.getElem_toArray, List.getElem_cons_zero, List.getElem_cons_succ, Act.put, List.setIfInBounds_toArray, List.set_cons_zero, List.set_cons_succ])); (refine wpAnyH_take (i := 3) (v := ?_) rfl (by kernel_rfl) (by kernel_rfl) (by kernel_rfl) (fun _ _ _ h => h) (Or.inl ⟨by rfl, ?_⟩) hHeld ?_; rotate_left; (· (intro w' hSw; go_simp; try with_reducible rfl)); (try simp only [List.getElem_toArray, List.getElem_cons_zero, List.getElem_cons_succ, Act.put, List.setIfInBounds_toArray, List.set_cons_zero, List.set_cons_succ])); (refine wpAnyH_take (i := 5) (v := ?_) rfl (by kernel_rfl) (by kernel_rfl) (by kernel_rfl) (fun _ _ _ h => h) (Or.inl ⟨by rfl, ?_⟩) hHeld ?_; rotate_left; (· (intro w' hSw; go_simp; try with_reducible rfl)); (try simp only [List.getElem_toArray, List.getElem_cons_zero, List.getElem_cons_succ, Act.put, List.setIfInBounds_toArray, List.set_cons_zero, List.set_cons_succ]))
    (refine wpAnyH_take (i := 4) (v := .int .i64 (p : Int)) rfl (by kernel_rfl) (by kernel_rfl) (by kernel_rfl) (fun _ _ _ h => h) (Or.inl ⟨by rfl, ?_⟩) hHeld ?_; (· (intro w' hSw; have q := hSw.2.cellXg (k := 0) (x := (p : Int)) (by omega) XH.out; clear hSw; go_simp; try with_reducible rfl)); (try simp only [List.getElem_toArray, List.getElem_cons_zero, List.getElem_cons_succ, Act.put, List.setIfInBounds_toArray, List.set_cons_zero, List.set_cons_succ]))
    (refine wpAnyH_take (i := 6) (v := ?_) rfl (by kernel_rfl) (by kernel_rfl) (by kernel_rfl) (fun _ _ _ h => h) (Or.inl ⟨by rfl, ?_⟩) hHeld ?_; rotate_left; (· (intro w' hSw; go_simp; try with_reducible rfl)); (try simp only [List.getElem_toArray, List.getElem_cons_zero, List.getElem_cons_succ, Act.put, List.setIfInBounds_toArray, List.set_cons_zero, List.set_cons_succ]))
    (refine wpAnyH_take (i := 7) (v := _) rfl (by kernel_rfl) (by kernel_rfl) (by kernel_rfl) (fun _ _ _ h => h) (yieldsIf_load_mid (by rfl) 24 _ rfl _ _ rfl (ints (tub ns p)) _ (fun w' hSw => hSw.1.holds.sub (p * 4) 4) Try.underlying24 rfl (hi1)) hHeld ?_; (try simp only [List.getElem_toArray, List.getElem_cons_zero, List.getElem_cons_succ, Act.put, List.setIfInBounds_toArray, List.set_cons_zero, List.set_cons_succ]))
    (refine wpAnyH_take (i := 8) (v := ?_) rfl (by kernel_rfl) (by kernel_rfl) (by kernel_rfl) (fun _ _ _ h => h) (Or.inl ⟨by rfl, ?_⟩) hHeld ?_; rotate_left; (· (intro w' hSw; go_simp; try with_reducible rfl)); (try simp only [List.getElem_toArray, List.getElem_cons_zero, List.getElem_cons_succ, Act.put, List.setIfInBounds_toArray, List.set_cons_zero, List.set_cons_succ]))
    (refine wpAnyH_take (i := 9) (v := .int .i64 (q : Int)) rfl (by kernel_rfl) (by kernel_rfl) (by kernel_rfl) (fun _ _ _ h => h) (Or.inl ⟨by rfl, ?_⟩) hHeld ?_; (· (intro w' hSw; have q := hSw.2.cellXg (k := 1) (x := (q : Int)) (by omega) YH.out; clear hSw; go_simp; try with_reducible rfl)); (try simp only [List.getElem_toArray, List.getElem_cons_zero, List.getElem_cons_succ, Act.put, List.setIfInBounds_toArray, List.set_cons_zero, List.set_cons_succ]))
    (refine wpAnyH_take (i := 10) (v := ?_) rfl (by kernel_rfl) (by kernel_rfl) (by kernel_rfl) (fun _ _ _ h => h) (Or.inl ⟨by rfl, ?_⟩) hHeld ?_; rotate_left; (· (intro w' hSw; go_simp; try with_reducible rfl)); (try simp only [List.getElem_toArray, List.getElem_cons_zero, List.getElem_cons_succ, Act.put, List.setIfInBounds_toArray, List.set_cons_zero, List.set_cons_succ])); (refine wpAnyH_take (i := 11) (v := ?_) rfl (by kernel_rfl) (by kernel_rfl) (by kernel_rfl) (fun _ _ _ h => h) (Or.inl ⟨by rfl, ?_⟩) hHeld ?_; rotate_left; (· (intro w' hSw; go_simp; try with_reducible rfl)); (try simp only [List.getElem_toArray, List.getElem_cons_zero, List.getElem_cons_succ, Act.put, List.setIfInBounds_toArray, List.set_cons_zero, List.set_cons_succ]))
    (refine wpAnyH_take (i := 12) (v := _) rfl (by kernel_rfl) (by kernel_rfl) (by kernel_rfl) (fun _ _ _ h => h) (yieldsIf_load_mid (by rfl) 24 _ rfl _ _ rfl (ints (tub ns q)) _ (fun w' hSw => hSw.1.holds.sub (q * 4) 4) Try.underlying24 rfl (hi2)) hHeld ?_; (try simp only [List.getElem_toArray, List.getElem_cons_zero, List.getElem_cons_succ, Act.put, List.setIfInBounds_toArray, List.set_cons_zero, List.set_cons_succ]))
    (refine wpAnyH_ready (rs := [13]) (by kernel_rfl) (by simp) ?_; refine AllReadyH.cons (o := _) rfl (fun K hK => ?_) AllReadyH.nil; (simp only [List.getElem_toArray, List.getElem_cons_zero, List.getElem_cons_succ, Region.wanted, if_true]))
    go_simp
    refine (isIdle_any (tub ns p) (tub ns q) _ sA sB vp vq).mono ?_
    rintro e w2 ⟨rfl, b2⟩
    rw [← idleB]
    dsimp only
    (try simp only [List.getElem_toArray, List.getElem_cons_zero, List.getElem_cons_succ, Act.put, List.setIfInBounds_toArray, List.set_cons_zero, List.set_cons_succ])
    refine hK.out _ _ ⟨hHeld.1.below b2, hHeld.2.below b2⟩ (fun hHeld => ?_)
    clear hK K
    have hHeld2 := hHeld
    (refine wpAnyH_take (i := 14) (v := ?_) rfl (by kernel_rfl) (by kernel_rfl) (by kernel_rfl) (fun _ _ _ h => h) (Or.inl ⟨by rfl, ?_⟩) hHeld ?_; rotate_left; (· (intro w' hSw; go_simp; try with_reducible rfl)); (try simp only [List.getElem_toArray, List.getElem_cons_zero, List.getElem_cons_succ, Act.put, List.setIfInBounds_toArray, List.set_cons_zero, List.set_cons_succ]))
    refine wpAnyH_done (by kernel_rfl) ?_ _
    replace HX := HX.drew.below b2
    replace Z := Z.drew.below b2
    replace HB := Lib.hid ((keptDrew8G HB.out).call b2)
    replace HP := hHeld2.2
    clear hHeld hHeld2 H b2
    cases hid : idl ns p q with
    | true =>
      have EO3 : Hid (tbOk ns x y = false) := Lib.hid (by rw [EO2.out, hid]; rfl)
      have ER2 : Hid (tbR ns x y = z26) := Lib.hid (by rw [ER.out, if_neg (by rw [EO3.out]; simp)])
      have S1 := Lib.hid (Z.putAll z26 rfl)
      have S2 := Lib.hid (HB.out.puts (b := w.heap.size + 1 + 1) (by omega) 0 (ints z26))
      clear hid hx hy
      go_wp2_with (first | (refine build_law rfl 69 rfl _ buildTurnZ ?_) | (refine store_at rfl 69 _ _ rfl _ _ rfl rfl ?_ 26 ?_ ?_ ?_ ?_; rotate_left; (· (repeat (first | (with_reducible assumption) | ((with_reducible refine Has.box _ _ ?_ ?_) <;> (first | assumption | decide)) | (with_reducible refine Has.alloc ?_ _) | ((with_reducible refine Has.putOther ?_ _ _ ?_); rotate_left; omega; skip) | ((with_reducible refine Has.below ?_ ?_); rotate_left; assumption)))); (· (first | assumption | rfl)); (· kernel_rfl)))
      exact bodyPost_ret (res_has1 rfl _ _ (w.heap.size + 1 + 1) z26 26 _ (.bool false) rfl rfl S1.out Try.underlying69 rfl (by kernel_rfl)) rfl ⟨by rw [ER2.out, EO3.out], S2.out⟩
    | false =>
      have EO3 : Hid (tbOk ns x y = true) := Lib.hid (by rw [EO2.out, hid]; rfl)
      have ER2 : Hid (tbR ns x y = x :: y :: t) := Lib.hid (by rw [ER.out, if_pos EO3.out])
      have l26 : (x :: y :: t).length = 26 := by rw [List.length_cons, List.length_cons, hT]
      have S1 := Lib.hid (Z.putAll (x :: y :: t) l26)
      have S2 := Lib.hid (HB.out.puts (b := w.heap.size + 1 + 1) (by omega) 0 (ints (x :: y :: t)))
      clear hid hx hy
      go_wp2_with (first | (refine load_has rfl 36 _ rfl _ rfl ?_ 2 ?_ _ Try.underlying36 rfl ?_ ?_; rotate_left; (· (repeat (first | (with_reducible assumption) | ((with_reducible refine Has.box _ _ ?_ ?_) <;> (first | assumption | decide)) | (with_reducible refine Has.alloc ?_ _) | ((with_reducible refine Has.putOther ?_ _ _ ?_); rotate_left; omega; skip) | ((with_reducible refine Has.below ?_ ?_); rotate_left; assumption)))); (· kernel_rfl)) | (refine load_has rfl 27 _ rfl _ rfl ?_ 24 ?_ _ Try.underlying27 rfl ?_ ?_; rotate_left; (· (repeat (first | (with_reducible assumption) | ((with_reducible refine Has.box _ _ ?_ ?_) <;> (first | assumption | decide)) | (with_reducible refine Has.alloc ?_ _) | ((with_reducible refine Has.putOther ?_ _ _ ?_); rotate_left; omega; skip) | ((with_reducible refine Has.below ?_ ?_); rotate_left; assumption)))); (· kernel_rfl)) | (refine build_two rfl 69 _ _ rfl (.agg (ints [x, y]).toArray) (.agg (ints t).toArray) _ rfl rfl (buildTurn x y t hT) ?_) | (refine store_at rfl 69 _ _ rfl _ _ rfl rfl ?_ 26 ?_ ?_ ?_ ?_; rotate_left; (· (repeat (first | (with_reducible assumption) | ((with_reducible refine Has.box _ _ ?_ ?_) <;> (first | assumption | decide)) | (with_reducible refine Has.alloc ?_ _) | ((with_reducible refine Has.putOther ?_ _ _ ?_); rotate_left; omega; skip) | ((with_reducible refine Has.below ?_ ?_); rotate_left; assumption)))); (· (first | assumption | rfl)); (· kernel_rfl)))
      exact bodyPost_ret (res_has1 rfl _ _ (w.heap.size + 1 + 1) (x :: y :: t) 26 _ (.bool true) rfl rfl S1.out Try.underlying69 rfl (by kernel_rfl)) rfl ⟨by rw [ER2.out, EO3.out], S2.out⟩
end Go.Proofs.Ytnldnjnnjfbhnab.base
end

section
namespace Go.Proofs.Ytnldnjnnjfbhnab.base
open Go.ChangeShapes Go.WideShapes Go.ChangeAt Go.RowKit
set_option linter.unusedVariables false
set_option linter.unusedSimpArgs false

theorem tb_turn {ns : List Int} (G : GR ns) {k : Nat} (hk : k < usefNA ns) : tbR ns (upX ns k) (upY ns k) = trn ns k ∧ tbOk ns (upX ns k) (upY ns k) = true := by
  obtain ⟨p, q, hp, hq, hne, hc, hid, hx, hy, hr, hok⟩ := up_natG G k hk
  have e : tbOk ns (upX ns k) (upY ns k) = true := by
    unfold tbOk; rw [hx, hy, hok, Int.toNat_natCast, Int.toNat_natCast, hid]; rfl
  refine ⟨?_, e⟩
  unfold tbR; rw [if_pos e]; rfl
theorem trn_len {ns : List Int} (h : ns.length = 24) (k : Nat) : (trn ns k).length = 26 := by
  unfold trn nxR; rw [List.length_cons, List.length_cons, pourR_len h]

set_option maxHeartbeats 3200000 in
set_option maxRecDepth 100000 in
theorem turnsOf_any (ns : List Int) (w : World) (G : GR ns) :
    Calls Try.prog 48 #[row ns] w fun e w' => ∃ v : Value, e = .returned v ∧ Gr w' w.heap.size 69 26 v (trL ns (usefNA ns)) ∧ Kept w w' := by
  have h24 := G.1
  have H24 := Lib.hid h24
  have HB := Lib.hid (((kept_refl w).alloc (.cells (ints ns).toArray 27)).alloc (.cells #[] 69))
  have H := (Has.box w 27 h24 (by omega)).alloc (.cells #[] 69)
  have P0 := Gr.none (w.alloc (.cells (ints ns).toArray 27)) w.heap.size 69 26 (by simp)
  rw [size1] at P0
  have P1 := Lib.hid (P0.as (show [] = trL ns 0 from rfl))
  have KU := Lib.hid (fun W => implUseful ns W h24)
  have KP := Lib.hid (fun W x y => turnBy_any ns x y W h24)
  have HG := Lib.hid G
  rw [row_ints]
  clear P0
  go_enter Try.func48, Try.ntmps48
  go_wp2_with (refine load_has rfl 27 _ rfl _ rfl ?_ 24 ?_ _ Try.underlying27 rfl ?_ ?_; rotate_left; (· (repeat (first | (with_reducible assumption) | ((with_reducible refine Has.box _ _ ?_ ?_) <;> (first | assumption | decide)) | (with_reducible refine Has.alloc ?_ _) | ((with_reducible refine Has.putOther ?_ _ _ ?_); rotate_left; omega; skip) | ((with_reducible refine Has.below ?_ ?_); rotate_left; assumption)))); (· kernel_rfl))
  refine (KU.out _).mono ?_
  rintro e w1 ⟨pv, rfl, q1, b1⟩
  have HR := Lib.hid ((q1.mono (b' := 0) (Nat.zero_le _)).rw)
  have OW := Lib.hid q1.own
  replace H := H.below b1
  replace HB := Lib.hid (HB.out.call b1)
  replace P1 := Lib.hid (P1.out.below b1)
  have hlt := H.lt
  have hsz := b1.size
  simp only [size1] at hsz OW
  obtain ⟨a0, cap0, rfl⟩ := HR.out.shape
  have N30 := use30 ns
  have TB := Lib.hid (fun k hk => tb_turn (k := k) G hk)
  obtain ⟨N, hN⟩ : ∃ N, usefNA ns = N := ⟨_, rfl⟩
  have HN := Lib.hid hN
  rw [hN] at HR N30 OW ⊢
  clear q1 b1 hN KU
  have X0 : Hid (0 < N → ∀ z, (Value.slice a0 N cap0).ownBlock = some z → z ≠ w.heap.size + 1) := Lib.hid (fun hn z hz => by have := OW.out z hz; omega)
  clear OW
  go_wp2_with fail
  go_loopg [3, 18] N (fun gk v i wr => ∃ k gr cr : Nat, gk = N - k ∧ k ≤ N ∧ v = .slice (some ⟨gr, 0, none⟩) k cr ∧ i = .int .i64 k ∧ Has wr w.heap.size ns 24 ∧ Hid (Gr wr w.heap.size 69 26 (.slice (some ⟨gr, 0, none⟩) k cr) (trL ns k)) ∧ Hid (Rw wr 0 (.slice a0 N cap0) N (usefFA ns)) ∧ Hid (0 < N → ∀ z, (Value.slice a0 N cap0).ownBlock = some z → z ≠ gr) ∧ w.heap.size + 1 ≤ gr ∧ Hid (Kept w wr))
  case atStart => exact ⟨0, w.heap.size + 1, 0, rfl, by omega, rfl, rfl, H, P1, HR, X0, by omega, HB⟩
  case round =>
    clear H P1 HR X0 HB hsz hlt
    obtain ⟨k, gr, cr, rfl, hk, rfl, rfl, KA, KO, KS, KX, hgr, KB⟩ := hrel
    by_cases hkN : k < N
    · have hki : (k : Int) < (N : Int) := by omega
      have hk0 : (0 : Int) ≤ (k : Int) := by omega
      have N0 : 0 < N := by omega
      obtain ⟨g, cap, he, _, hgl⟩ := KS.out.form N0
      injection he with e1 _ e3
      subst e1
      subst e3
      have XG : g ≠ gr := KX.out N0 g rfl
      have RG := Lib.hid (range_two (KS.out.cell (k * 2) (by omega)) (KS.out.cell (k * 2 + 1) (by omega)))
      have Y := Lib.hid (trL_succ ns k)
      have TK := Lib.hid (TB.out k (by rw [HN.out]; exact hkN))
      have hbl := trL_len ns k
      have ex : (usefFA ns).getD (k * 2) 0 = upX ns k := rfl
      have ey : (usefFA ns).getD (k * 2 + 1) 0 = upY ns k := rfl
      rw [ex, ey] at RG
      have t26 := trn_len H24.out k
      obtain ⟨x, hx⟩ : ∃ x, upX ns k = x := ⟨_, rfl⟩
      obtain ⟨y, hy⟩ : ∃ y, upY ns k = y := ⟨_, rfl⟩
      rw [hx, hy] at RG TK
      obtain ⟨t, ht⟩ : ∃ t, trn ns k = t := ⟨_, rfl⟩
      rw [ht] at Y t26 TK
      clear ex ey hx hy ht
      have hA := KA.lt
      have HP := Has.box (ns := [x, y]) (n := 2) wr 36 rfl (by omega)
      replace KA := KA.alloc (.cells (ints [x, y]).toArray 36)
      replace KO := Lib.hid (KO.out.alloc (.cells (ints [x, y]).toArray 36))
      replace KS := Lib.hid (KS.out.alloc (.cells (ints [x, y]).toArray 36))
      replace KB := Lib.hid (KB.out.alloc (.cells (ints [x, y]).toArray 36))
      go_wp2_with (first | (refine wpList_load_mid rfl 36 _ rfl g (k * 2) rfl (ints [x, y]) _ RG.out Try.underlying36 rfl (by kernel_rfl) ?_) | (refine store_new rfl 36 _ _ rfl _ _ _ rfl _ rfl _ rfl rfl ?_ ?_ ?_; (· (first | assumption | rfl)); (· kernel_rfl)) | (refine load_has rfl 27 _ rfl _ rfl ?_ 24 ?_ _ Try.underlying27 rfl ?_ ?_; rotate_left; (· (repeat (first | (with_reducible assumption) | ((with_reducible refine Has.box _ _ ?_ ?_) <;> (first | assumption | decide)) | (with_reducible refine Has.alloc ?_ _) | ((with_reducible refine Has.putOther ?_ _ _ ?_); rotate_left; omega; skip) | ((with_reducible refine Has.below ?_ ?_); rotate_left; assumption)))); (· kernel_rfl)) | (refine load_has rfl 36 _ rfl _ rfl ?_ 2 ?_ _ Try.underlying36 rfl ?_ ?_; rotate_left; (· (repeat (first | (with_reducible assumption) | ((with_reducible refine Has.box _ _ ?_ ?_) <;> (first | assumption | decide)) | (with_reducible refine Has.alloc ?_ _) | ((with_reducible refine Has.putOther ?_ _ _ ?_); rotate_left; omega; skip) | ((with_reducible refine Has.below ?_ ?_); rotate_left; assumption)))); (· kernel_rfl)))
      refine (KP.out _ x y).mono ?_
      rintro e w2 ⟨rfl, b2⟩
      rw [TK.out.1, TK.out.2, row_ints]
      have RR := Has.box w2 69 t26 (by omega)
      have hl2 := b2.size
      replace KA := (KA.below b2).alloc (.cells (ints t).toArray 69)
      replace KO := Lib.hid ((KO.out.below b2).alloc (.cells (ints t).toArray 69))
      replace KS := Lib.hid ((KS.out.below b2).alloc (.cells (ints t).toArray 69))
      replace KB := Lib.hid ((KB.out.call b2).alloc (.cells (ints t).toArray 69))
      clear RG b2 HP hgl TK
      go_upto_region 7 with (refine store_new rfl 69 _ _ rfl _ _ _ rfl _ rfl _ rfl rfl ?_ ?_ ?_; (· (first | assumption | rfl)); (· kernel_rfl))
      generalize w2.alloc (.cells (ints t).toArray 69) = wc at *
      have hbs := KB.out.size
      have hA := KA.lt
      have hgr2 := KO.out.own gr rfl
      have hrrl := RR.lt
      go_wp2_with (first | (refine load_has rfl 69 _ rfl _ rfl ?_ 26 ?_ _ Try.underlying69 rfl ?_ ?_; rotate_left; (· (repeat (first | (with_reducible assumption) | ((with_reducible refine Has.box _ _ ?_ ?_) <;> (first | assumption | decide)) | (with_reducible refine Has.alloc ?_ _) | ((with_reducible refine Has.putOther ?_ _ _ ?_); rotate_left; omega; skip) | ((with_reducible refine Has.below ?_ ?_); rotate_left; assumption)))); (· kernel_rfl)) | (refine wpList_slice1 rfl 83 69 _ rfl 26 208 Try.underlying83 (by kernel_rfl) (by omega) (by omega) t rfl t26 ?_) | (at_builtin; refine append_gr rfl _ _ 83 rfl w.heap.size 69 26 208 Try.underlying83 (by kernel_rfl) (by omega) (by omega) _ k (trL ns k) hbl rfl (KO.out.alloc _) wc.heap.size 1 rfl t (Has.box wc 69 t26 (by omega)) (by rw [size1]; omega) (by omega) ?_; intro g' cu' w4 hG hgrow hlie hlt4))
      have A1 := (KA.alloc (.cells (ints t).toArray 69)).grownNo hgrow (fun e => by have e := Option.some.inj (show some w.heap.size = some gr from e); omega)
      have A3 : Hid (Kept w w4) := Lib.hid ((KB.out.alloc (.cells (ints t).toArray 69)).grown hgrow (KB.out.alloc (.cells (ints t).toArray 69)).size (fun j hj => by have hj := Option.some.inj (show some gr = some j from hj); omega))
      have A4 := Lib.hid (hG.as Y.out.symm)
      have A5 := Lib.hid ((KS.out.alloc (.cells (ints t).toArray 69)).grownP hgrow (fun _ z hz => .inr (fun e => by
        have h1 := Option.some.inj (show some gr = some z from hz)
        have h2 := Option.some.inj (show some g = some z from e)
        exact XG (by rw [h1, h2]))))
      have hgw := (KS.out.lt (by omega)).2
      have A6 : Hid (0 < N → ∀ z, (Value.slice (some ⟨g, 0, none⟩) N cap0).ownBlock = some z → z ≠ g') := Lib.hid (fun _ z hz => by
        have h2 := Option.some.inj (show some g = some z from hz)
        subst h2
        rcases hlie with h3 | h3
        · have h3 := Option.some.inj (show some gr = some g' from h3)
          rw [← h3]; exact XG
        · rw [size1] at h3; omega)
      have A7 : w.heap.size + 1 ≤ g' := by
        rcases hlie with h3 | h3
        · have h3 := Option.some.inj (show some gr = some g' from h3)
          omega
        · rw [size1] at h3; omega
      clear hG hgrow hlie KA KO KS KB KX hbl hgw
      go_roundg (N - (k + 1))
      case rel => exact ⟨k + 1, g', cu', rfl, by omega, rfl, by go_num, A1, A4, A5, A6, A7, A3⟩
      case measure => omega
    · obtain rfl : k = N := by omega
      go_wp2_with fail
      go_ret
      exact ⟨_, rfl, by rw [HN.out]; exact KO.out, KB.out⟩

/-- A rack without useful pours. -/
def lostA (ns : List Int) : Bool := vR ns && decide (usefNA ns = 0)
end Go.Proofs.Ytnldnjnnjfbhnab.base
end
