/-
  Orders before a color, the hidden layers of a rack, and the rank of an order, on the program's side, walked.
-/
import Derived.Test.YtemiljokdedidabRkV
import Derived.Test.YtemiljokdedidabVwI2
import Derived.Test.YtemiljokdedidabVofI
import Derived.Test.YtemiljokdedidabNu
namespace Go.Proofs.Ytemiljokdedidab.base
open Go.ChangeShapes Go.WideShapes Go.ChangeAt Go.RowKit
set_option linter.unusedVariables false
set_option linter.unusedSimpArgs false

theorem Stk.lessPl {s : List Int} {n : Nat} (h : Stk s n) (c : Nat) (hc : c < 6) : plUp (less1 s c) 6 ≤ n := by
  have p := plUp_setN s c (s.getD c 0 - 1) h.len hc
  have := h.nat c hc
  have := h.pl
  unfold less1
  omega
theorem Stk.le18 {s : List Int} {n : Nat} (h : Stk s n) (hn : n ≤ 18) : ordA s ≤ 101559956668416 := by
  have h1 := h.le
  have h3 : 6 ^ n ≤ 6 ^ 18 := Nat.pow_le_pow_right (by omega) hn
  have h4 : (6 : Nat) ^ 18 = 101559956668416 := by decide
  omega

theorem Nu.emptyV (w : World) (b : Nat) (hb : b ≤ w.heap.size) : Nu (w.alloc (.cells #[] 3)) b (.slice (some ⟨w.heap.size, 0, Option.none⟩) 0 0) 0 [] := by
  have := World.ownsRow_made (base := b) (e := 3) (size := 1) w #[] 0 hb (by unfold maxLen; omega) (by simp)
  simpa [Nu, ints] using this
theorem Nu.asideV {w : World} {b n : Nat} {v : Value} {fs : List Int} (h : Nu w b v n fs) (c o : Nat) (vs : List Value) (hne : ∀ k, v.ownBlock = some k → k ≠ c) : Nu (w.setCells c o vs) b v n fs := by
  have hb := below_setCells (B := 0) c (Nat.zero_le _) vs o w w (Below.refl _ _)
  exact h.grownP (r := some c) ⟨hb.os, hb.tape, hb.output, Nat.le_of_eq (size_setCells c vs o w).symm, fun i hi hn => World.heap_setCells_other w c o vs hi (fun e => hn (by rw [e]))⟩ (fun k hk => .inr (fun e => by injection hk with hk; subst hk; exact hne _ e rfl))
/-- What stands in a block beside a row that grows. -/
theorem Has.beside {w w' : World} {c : Nat} {ns : List Int} {n : Nat} (H : Has w c ns n) {r : Option Nat} (hg : w.grownBy w' r) (hr : some c ≠ r) : Has w' c ns n := by
  have hb := hg.block c H.lt hr
  refine ⟨⟨fun j v hv => (World.cell?_of_block (a := ⟨c, 0 + j, Option.none⟩) hb).trans (H.holds.range j v hv), fun j hj => ?_⟩, H.len, H.pos⟩
  have := H.holds.there j hj
  rw [World.cell?_of_block (w' := w') (w := w) (a := ⟨c, 0 + j, Option.none⟩) hb, World.frozen?_of_block (w' := w') (w := w) (a := ⟨c, 0 + j, Option.none⟩) hb]
  exact this

set_option maxHeartbeats 400000 in
theorem ordersBefore_any (s : List Int) (n c : Nat) (w : World) (hS : Stk s n) (hn : n ≤ 18) (h1 : 1 ≤ c) (hc : c ≤ 6) :
    Calls Try.prog 76 #[row s, .int .i64 c] w fun e w' => e = .returned (.int .i64 (bef s c : Nat)) ∧ Kept w w' := by
  have h6 := hS.len
  have H := Has.box w 66 h6 (by omega)
  have HB := Lib.hid ((kept_refl w).alloc (.cells (ints s).toArray 66))
  have SS := Lib.hid hS
  have BB := Lib.hid (show ∀ l, l ≤ 6 → bef s l ≤ 101559956668416 from fun l hl => Nat.le_trans (hS.bef_le l hl) (hS.le18 hn))
  have LP := Lib.hid (show ∀ l, l < 6 → plUp (less1 s l) 6 ≤ 18 from fun l hl => Nat.le_trans (hS.lessPl l hl) hn)
  have RG := Lib.hid (show ∀ l, l < 6 → -1000 ≤ s.getD l 0 ∧ s.getD l 0 ≤ 1000 from fun l hl => by
    have := hS.nat l hl
    have := hS.each l hl
    omega)
  have B1 := Lib.hid (bef_one s)
  rw [row_ints]
  clear hS
  go_enter Try.func76, Try.ntmps76
  go_wp2_with fail
  generalize w.alloc (.cells (ints s).toArray 66) = W at *
  go_loopg [5, 6] (c - 1) (fun gk m i wr => ∃ l : Nat, gk = c - l ∧ 1 ≤ l ∧ l ≤ c ∧ i = .int .i64 l ∧ m = .int .i64 (bef s l : Nat) ∧ Has wr w.heap.size s 6 ∧ Hid (Kept w wr))
  case atStart => exact ⟨1, rfl, by omega, by omega, rfl, by rw [B1.out]; rfl, H, HB⟩
  case round =>
    obtain ⟨l, rfl, hl1, hl, rfl, rfl, GH, GB⟩ := hrel
    by_cases hlt : l < c
    · have hli : (l : Int) < (c : Int) := by omega
      have ES := Lib.hid (bef_succ s l hl1)
      have bb := BB.out (l + 1) (by omega)
      rw [ES.out] at bb
      have rg := RG.out l (by omega)
      have lp := LP.out l (by omega)
      have l6 : (less1 s l).length = 6 := by rw [less1_len]; exact h6
      go_wp2_with (refine load_has rfl 66 _ rfl _ rfl ?_ 6 ?_ _ Try.underlying66 rfl ?_ ?_; rotate_left; (· (repeat (first | (with_reducible assumption) | ((with_reducible refine Has.box _ _ ?_ ?_) <;> (first | assumption | decide)) | (with_reducible refine Has.alloc ?_ _) | ((with_reducible refine Has.putOther ?_ _ _ ?_); rotate_left; omega; skip) | ((with_reducible refine Has.below ?_ ?_); rotate_left; assumption)))); (· kernel_rfl))
      refine (without_any s l _ h6 (by omega) rg).mono ?_
      rintro e w1 ⟨rfl, b1⟩
      have GH1 := GH.below b1
      have GB1 := Lib.hid (GB.out.call b1)
      clear GH GB b1 rg
      go_wp2_with fail
      refine (orders_any (less1 s l) _ l6 lp).mono ?_
      rintro e w2 ⟨rfl, b2⟩
      have GH2 := GH1.below b2
      have GB2 := Lib.hid (GB1.out.call b2)
      clear GH1 GB1 b2
      generalize bef s l = x at *
      generalize ordA (less1 s l) = y at *
      have hx : x < 1000000000000000 := by omega
      have hy : y < 1000000000000000 := by omega
      go_wp2_with fail
      go_roundg (c - (l + 1))
      case rel => exact ⟨l + 1, rfl, by omega, by omega, by go_num, by rw [ES.out]; go_num, GH2, GB2⟩
      case measure => omega
    · obtain rfl : l = c := by omega
      go_wp2_with fail
      go_ret
      exact ⟨rfl, GB.out⟩

set_option maxHeartbeats 800000 in
theorem rankOf_any (s : List Int) (f : Nat → Nat) (n b : Nat) (v : Value) (fs : List Int) (w : World) (hS : Stk s n) (hn : n ≤ 18) (hf : Fits s f n) (hfs : ∀ k, k < n → fs.getD k 0 = (f k : Int)) (hN : Nu w b v n fs) :
    Calls Try.prog 44 #[row s, v] w fun e w' => e = .returned (.int .i64 ((rk s f n).2 : Nat)) ∧ Kept w w' := by
  have h6 := hS.len
  have H := Has.box w 66 h6 (by omega)
  have HB := Lib.hid ((kept_refl w).alloc (.cells (ints s).toArray 66))
  have HN := Lib.hid (hN.alloc (.cells (ints s).toArray 66))
  have HO := Lib.hid (show ∀ k, v.ownBlock = some k → k ≠ w.heap.size from fun k hk => by have := (hN.own k hk).2; omega)
  have OK := Lib.hid (fun k hk => rk_ok hS hf k hk)
  have BB := Lib.hid (hS.le18 hn)
  have HF := Lib.hid hf
  have HFS := Lib.hid hfs
  obtain ⟨a, cap, rfl⟩ := hN.shape
  rw [row_ints]
  clear hS hf hfs hN
  go_enter Try.func44, Try.ntmps44
  go_wp2_with fail
  generalize w.alloc (.cells (ints s).toArray 66) = W at *
  go_loopg [5, 10] n (fun gk m i wr => ∃ k : Nat, gk = n - k ∧ k ≤ n ∧ i = .int .i64 k ∧ m = .int .i64 ((rk s f k).2 : Nat) ∧ Has wr w.heap.size (rk s f k).1 6 ∧ Hid (Nu wr b (.slice a n cap) n fs) ∧ Hid (Kept w wr))
  case atStart => exact ⟨0, rfl, by omega, rfl, rfl, H, HN, HB⟩
  case round =>
    obtain ⟨k, rfl, hk, rfl, rfl, GH, GN, GB⟩ := hrel
    by_cases hlt : k < n
    · have hki : (k : Int) < (n : Int) := by omega
      obtain ⟨g, c2, he, _, _⟩ := GN.out.form (by omega)
      injection he with e1 _ e3
      subst e1
      subst e3
      have c0 := GN.out.cellX hlt (HFS.out k hlt)
      obtain ⟨o1, o2⟩ := OK.out k (by omega)
      obtain ⟨o3, o4⟩ := OK.out (k + 1) (by omega)
      obtain ⟨f1, f2, f3⟩ := HF.out k hlt
      have ES : Hid ((rk s f (k + 1)).1 = less1 (rk s f k).1 (f k)) := Lib.hid rfl
      have ER : Hid ((rk s f (k + 1)).2 = (rk s f k).2 + bef (rk s f k).1 (f k)) := Lib.hid rfl
      have hr2 : (rk s f k).2 + bef (rk s f k).1 (f k) ≤ 101559956668416 := by
        have := BB.out
        have e : (rk s f (k + 1)).2 = (rk s f k).2 + bef (rk s f k).1 (f k) := rfl
        omega
      have O1 := Lib.hid o1
      have l6 := o1.len
      have l7 := o3.len
      have rg : -1000 ≤ (rk s f k).1.getD (f k) 0 ∧ (rk s f k).1.getD (f k) 0 ≤ 1000 := by
        have := o1.each (f k) f2
        omega
      clear o1 o2 o3 o4 f3
      generalize hR1 : rk s f (k + 1) = R1 at *
      have HR1 := Lib.hid hR1
      clear hR1
      generalize rk s f k = R0 at *
      generalize f k = c at *
      go_wp2_with (refine load_has rfl 66 _ rfl _ rfl ?_ 6 ?_ _ Try.underlying66 rfl ?_ ?_; rotate_left; (· (repeat (first | (with_reducible assumption) | ((with_reducible refine Has.box _ _ ?_ ?_) <;> (first | assumption | decide)) | (with_reducible refine Has.alloc ?_ _) | ((with_reducible refine Has.putOther ?_ _ _ ?_); rotate_left; omega; skip) | ((with_reducible refine Has.below ?_ ?_); rotate_left; assumption)))); (· kernel_rfl))
      refine (ordersBefore_any R0.1 (n - k) c _ O1.out (by omega) f1 (by omega)).mono ?_
      rintro e w1 ⟨rfl, b1⟩
      have GH1 := GH.below b1
      have GN1 := Lib.hid (GN.out.below b1)
      have GB1 := Lib.hid (GB.out.call b1)
      clear GH GN GB b1 c0
      generalize bef R0.1 c = y at *
      have hx : R0.2 < 1000000000000000 := by omega
      have hy : y < 1000000000000000 := by omega
      go_wp2_with (refine load_has rfl 66 _ rfl _ rfl ?_ 6 ?_ _ Try.underlying66 rfl ?_ ?_; rotate_left; (· (repeat (first | (with_reducible assumption) | ((with_reducible refine Has.box _ _ ?_ ?_) <;> (first | assumption | decide)) | (with_reducible refine Has.alloc ?_ _) | ((with_reducible refine Has.putOther ?_ _ _ ?_); rotate_left; omega; skip) | ((with_reducible refine Has.below ?_ ?_); rotate_left; assumption)))); (· kernel_rfl))
      refine (without_any R0.1 c _ l6 f2 rg).mono ?_
      rintro e w2 ⟨rfl, b2⟩
      rw [← ES.out]
      have GH2 := GH1.below b2
      have GN2 := GN1.out.below b2
      have GB2 := GB1.out.call b2
      have GH3 := Lib.hid (GH2.putAll R1.1 l7)
      have GN3 := Lib.hid (GN2.asideV w.heap.size 0 (ints R1.1) HO.out)
      have GB3 := Lib.hid (GB2.puts (b := w.heap.size) (Nat.le_refl _) 0 (ints R1.1))
      clear GH1 GN1 GB1 b2 rg GN2 GB2
      rw [row_ints]
      go_wp2_with (refine store_at rfl 66 _ _ rfl _ _ rfl rfl ?_ 6 ?_ ?_ ?_ ?_; rotate_left; (· (repeat (first | (with_reducible assumption) | ((with_reducible refine Has.box _ _ ?_ ?_) <;> (first | assumption | decide)) | (with_reducible refine Has.alloc ?_ _) | ((with_reducible refine Has.putOther ?_ _ _ ?_); rotate_left; omega; skip) | ((with_reducible refine Has.below ?_ ?_); rotate_left; assumption)))); (· (first | assumption | rfl)); (· kernel_rfl))
      go_roundg (n - (k + 1))
      case rel => exact ⟨k + 1, rfl, by omega, by go_num, by rw [HR1.out, ER.out]; go_num, by rw [HR1.out]; exact GH3.out, GN3, GB3⟩
      case measure => omega
    · obtain rfl : k = n := by omega
      go_wp2_with fail
      go_ret
      exact ⟨rfl, GB.out⟩

section
variable {P : Program} {ops : Array Oper} {rest : List Oper} {op : Oper} {a : Act} {w : World} {Q : Exit → Act → World → Prop}
theorem slice_hi (hw : Region.wanted op (yielded ops a.tmps) = true) (T : TypeId) (x z : Operand) (ho : op.op = .slice T x none (some z) none) (u q v : Value) (hx : a.eval x = u) (hz : a.eval z = q)
    (hq : (Instr.sliceAt T u none (some q) none).run P w = .ok v w)
    (h : wpList P ops Q rest (a.put op.dst v) w) : wpList P ops Q (op :: rest) a w :=
  wpList_wanted hw fun _ hK => by
    unfold Oper.wp execOp
    simp only [ho, hx, hz, Option.map_some, Option.map_none, Sem.run_bind, hq, Result.andThen_ok, Sem.run_pure]
    exact hK _ _ h
end
theorem slice4 (d q : Nat) (hq : q ≤ 4) (w : World) : (Instr.sliceAt 25 (.pointer (some ⟨d, 0, none⟩)) none (some (.int .i64 (q : Int))) none).run Try.prog w = .ok (.slice (some ⟨d, 0, none⟩) q 4) w := by
  have : q = 0 ∨ q = 1 ∨ q = 2 ∨ q = 3 ∨ q = 4 := by omega
  rcases this with rfl | rfl | rfl | rfl | rfl <;> exact (show _ = _ from by kernel_rfl)

set_option maxHeartbeats 800000 in
set_option maxRecDepth 100000 in
theorem hiddenLayers_any (ns : List Int) (w : World) (h24 : ns.length = 24) (hv : vR ns = true) :
    Calls Try.prog 45 #[row ns] w fun e w' => ∃ v : Value, e = .returned v ∧ Nu w' w.heap.size v (hl ns).length (hl ns) ∧ Kept w w' := by
  obtain ⟨i0, hi, hz0, hz1, hz2⟩ := infoN_parts infoN
  have HB := Lib.hid (((kept_refl w).alloc (.cells (ints ns).toArray 28)).alloc (.cells #[] 3))
  have H := (Has.box w 28 h24 (by omega)).alloc (.cells #[] 3)
  have N0 := Lib.hid (Nu.emptyV (w.alloc (.cells (ints ns).toArray 28)) w.heap.size (by simp))
  have gt := Lib.hid (fun k hk w => indexTub ns k hk w)
  have HV := Lib.hid hv
  have HL := Lib.hid h24
  have ES := Lib.hid (fun i hi => hlUp_succ_len h24 hv i hi)
  have EL := Lib.hid (fun i hi => (hlUp_len h24 hv i hi).2)
  rw [row_ints]
  clear hv
  go_enter Try.func45, Try.ntmps45
  go_upto_region 3 with (refine load_has rfl 26 _ rfl _ rfl ?_ 24 ?_ _ Try.underlying26 rfl ?_ ?_; rotate_left; (· (repeat (first | (with_reducible assumption) | ((with_reducible refine Has.box _ _ ?_ ?_) <;> (first | assumption | decide)) | (with_reducible refine Has.alloc ?_ _) | ((with_reducible refine Has.putOther ?_ _ _ ?_); rotate_left; omega; skip) | ((with_reducible refine Has.below ?_ ?_); rotate_left; assumption)))); (· kernel_rfl))
  clear H h24
  rw [size1] at N0
  generalize ((w.alloc (.cells (ints ns).toArray 28)).alloc (.cells #[] 3)) = W at *
  go_loopg [3, 10] 6 (fun gk u i wr => ∃ k : Nat, gk = 6 - k ∧ k ≤ 6 ∧ i = .int .i64 k ∧ Hid (Nu wr w.heap.size u (hlUp ns k).length (hlUp ns k)) ∧ Hid (Kept w wr))
  case atStart => exact ⟨0, rfl, by omega, rfl, N0, HB⟩
  case round =>
    obtain ⟨k, rfl, hk, rfl, GN, GB⟩ := hrel
    by_cases hlt : k < 6
    · have hki : (k : Int) < 6 := by omega
      have h4 := tub_len ns k HL.out hlt
      have hvt := vR_tub HV.out k hlt
      have g0 := gt.out k hlt
      have T := tubeFacts h4 hvt
      have F := Lib.hid (hidFacts h4 hvt)
      have l4 := T.lay4
      have e1 := Lib.hid (show hlUp ns (k + 1) = hlUp ns k ++ hidT (tub ns k) from rfl)
      have e2 := Lib.hid (ES.out k hlt)
      have e3 := EL.out k (by omega)
      clear T
      generalize tub ns k = t at *
      have GN2 := Lib.hid (GN.out.alloc (.cells (ints t).toArray 25))
      have GT2 := Has.box wr 25 h4 (by omega)
      have GB2 := Lib.hid (GB.out.alloc (.cells (ints t).toArray 25))
      have ON := Lib.hid (fun z hz => (GN.out.own z hz))
      have hbw := GB.out.size
      go_wp2_with (first | (refine store_new rfl 25 _ _ rfl _ _ _ rfl _ rfl _ rfl rfl ?_ ?_ ?_; (· (first | assumption | rfl)); (· kernel_rfl)) | (refine load_has rfl 25 _ rfl _ rfl ?_ 4 ?_ _ Try.underlying25 rfl ?_ ?_; rotate_left; (· (repeat (first | (with_reducible assumption) | ((with_reducible refine Has.box _ _ ?_ ?_) <;> (first | assumption | decide)) | (with_reducible refine Has.alloc ?_ _) | ((with_reducible refine Has.putOther ?_ _ _ ?_); rotate_left; omega; skip) | ((with_reducible refine Has.below ?_ ?_); rotate_left; assumption)))); (· kernel_rfl)))
      clear g0 GN GB
      generalize wr.alloc (.cells (ints t).toArray 25) = wt at *
      generalize wr.heap.size = d at *
      refine (layers_any t _ h4 hvt).mono ?_
      rintro e w3 ⟨rfl, b3⟩
      have GN3 := Lib.hid (GN2.out.below b3)
      have GT3 := GT2.below b3
      have GB3 := Lib.hid (GB2.out.call b3)
      clear GN2 GT2 GB2 b3
      obtain ⟨q, hq⟩ : ∃ q, q = lay t - 1 := ⟨_, rfl⟩
      have hql : (hidT t).length = q := by rw [F.out.len, hq]
      have q4 : q ≤ 4 := by omega
      have hcell : ∀ j u, (ints (hidT t))[j]? = some u → w3.cell? ((⟨d, 0, none⟩ : Addr).add j) = some u := by
        intro j u hu
        have hj : j < q := by
          rcases Nat.lt_or_ge j q with h | h
          · exact h
          · rw [List.getElem?_eq_none (by rw [ints_len]; omega)] at hu; cases hu
        have hg : (hidT t).getD j 0 = t.getD j 0 := by
          unfold hidT
          rw [List.getD_eq_getElem?_getD, List.getElem?_take, if_pos (by omega), ← List.getD_eq_getElem?_getD]
        rw [ints_get _ _ (by omega), hg] at hu
        rw [← hu, ← GT3.cell j (by omega)]
        by_cases h0 : j = 0
        · subst h0; rfl
        · simp [Addr.add, h0]
      have HC := Lib.hid hcell
      have HQ := Lib.hid hql
      have E4 := Lib.hid (show (hlUp ns (k + 1)).length = (hlUp ns k).length + q by rw [e2.out, hq])
      have hLq : lay t = 0 ∧ q = 0 ∨ lay t = q + 1 := by omega
      have OW := Lib.hid (show ∀ z, u3.ownBlock = some z → w.heap.size ≤ z from fun z hz => (ON.out z hz).1)
      have OD := Lib.hid (show ∀ z, u3.ownBlock = some z → z ≠ d from fun z hz => by have := (ON.out z hz).2; omega)
      have hq18 : (hlUp ns k).length + q ≤ 100 := by omega
      have hbase : w.heap.size ≤ w3.heap.size := GB3.out.size
      have hrow := GN3.out
      unfold Nu at hrow
      have one := ints_one (hidT t)
      have iln : (ints (hidT t)).length = q * 1 := by rw [ints_len, HQ.out]; omega
      clear hcell hql e2 hq ON
      rcases hLq with ⟨hL, rfl⟩ | hL
      all_goals
        rw [hL]
        clear hL
        generalize hhs : hlUp ns k = hs at *
        clear hhs
        go_upto_region 7 with (first | (refine slice_hi rfl 25 _ _ rfl (.pointer (some ⟨d, 0, none⟩)) (.int .i64 _) _ ?_ ?_ (slice4 d _ q4 _) ?_; (· rfl); (· rfl)) | (at_builtin; refine wpList_append_own _ rfl _ _ 69 rfl w.heap.size 3 i0 (.int .i64 0) 1 8 Try.underlying69 hi hz0 hz1 hz2 rfl (by decide) _ hs.length (ints hs) rfl hrow ⟨d, 0, none⟩ _ 4 (ints (hidT t)) rfl iln HC.out one (by unfold maxLen; omega) (by omega) hbase ?_; intro v' w6 hown' hgrow hnil))
        have KN := Lib.hid (show Nu w6 w.heap.size v' (hlUp ns (k + 1)).length (hlUp ns (k + 1)) by
          rw [E4.out, e1.out]; unfold Nu; rw [ints_app]; exact hown')
        have KB := Lib.hid (GB3.out.grown hgrow hbase (fun z hz => (OW.out z hz)))
        clear hown' hgrow hnil hrow one iln GN3 GT3 GB3
        go_wp2_with fail
        go_roundg (6 - (k + 1))
        case rel => exact ⟨k + 1, rfl, by omega, by go_num, KN, KB⟩
        case measure => omega
    · obtain rfl : k = 6 := by omega
      go_wp2_with fail
      go_ret
      exact ⟨_, rfl, GN.out, GB.out⟩
end Go.Proofs.Ytemiljokdedidab.base
