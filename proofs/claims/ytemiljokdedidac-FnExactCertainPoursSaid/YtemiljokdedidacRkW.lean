/-
  Orders before a color, the hidden layers of a rack, and the rank of an order, on the program's side, walked.
-/
import Derived.Test.YtemiljokdedidacRkV
import Derived.Test.YtemiljokdedidacVwIZ
import Derived.Test.YtemiljokdedidacVofWZ
import Derived.Test.YtemiljokdedidacNu
namespace Go.Proofs.Ytemiljokdedidac.base
open Go.ChangeShapes Go.WideShapes Go.ChangeAt Go.RowKit
set_option linter.unusedVariables false
set_option linter.unusedSimpArgs false

theorem Stk.lessPl {s : List Int} {n : Nat} (h : Stk s n) (c : Nat) (hc : c < 6) : plUp (less1 s c) 6 ≤ n := by
  have p := plUp_setN s c (s.getD c 0 - 1) h.len hc
  have := h.nat c hc
  have := h.pl
  unfold less1
  omega
theorem Stk.le18 {s : List Int} {n : Nat} (h : Stk s n) (hn : n ≤ 18) : ordA s ≤ 101559956668416 := by
  have h1 := h.le
  have h3 : 6 ^ n ≤ 6 ^ 18 := Nat.pow_le_pow_right (by omega) hn
  have h4 : (6 : Nat) ^ 18 = 101559956668416 := by decide
  omega

theorem Nu.emptyV (w : World) (b : Nat) (hb : b ≤ w.heap.size) : Nu (w.alloc (.cells #[] 3)) b (.slice (some ⟨w.heap.size, 0, Option.none⟩) 0 0) 0 [] := by
  have := World.ownsRow_made (base := b) (e := 3) (size := 1) w #[] 0 hb (by unfold maxLen; omega) (by simp)
  simpa [Nu, ints] using this
theorem Nu.asideV {w : World} {b n : Nat} {v : Value} {fs : List Int} (h : Nu w b v n fs) (c o : Nat) (vs : List Value) (hne : ∀ k, v.ownBlock = some k → k ≠ c) : Nu (w.setCells c o vs) b v n fs := by
  have hb := below_setCells (B := 0) c (Nat.zero_le _) vs o w w (Below.refl _ _)
  exact h.grownP (r := some c) ⟨hb.os, hb.tape, hb.output, Nat.le_of_eq (size_setCells c vs o w).symm, fun i hi hn => World.heap_setCells_other w c o vs hi (fun e => hn (by rw [e]))⟩ (fun k hk => .inr (fun e => by injection hk with hk; subst hk; exact hne _ e rfl))
/-- What stands in a block beside a row that grows. -/
theorem Has.beside {w w' : World} {c : Nat} {ns : List Int} {n : Nat} (H : Has w c ns n) {r : Option Nat} (hg : w.grownBy w' r) (hr : some c ≠ r) : Has w' c ns n := by
  have hb := hg.block c H.lt hr
  refine ⟨⟨fun j v hv => (World.cell?_of_block (a := ⟨c, 0 + j, Option.none⟩) hb).trans (H.holds.range j v hv), fun j hj => ?_⟩, H.len, H.pos⟩
  have := H.holds.there j hj
  rw [World.cell?_of_block (w' := w') (w := w) (a := ⟨c, 0 + j, Option.none⟩) hb, World.frozen?_of_block (w' := w') (w := w) (a := ⟨c, 0 + j, Option.none⟩) hb]
  exact this

set_option maxHeartbeats 400000 in
theorem ordersBefore_any (s : List Int) (n c : Nat) (w : World) (hS : Stk s n) (hn : n ≤ 18) (h1 : 1 ≤ c) (hc : c ≤ 6) :
    Calls Try.prog 124 #[row s, .int .i64 c] w fun e w' => e = .returned (.int .i64 (bef s c : Nat)) ∧ Kept w w' := by
  have h6 := hS.len
  have H := Has.box w 104 h6 (by omega)
  have HB := Lib.hid ((kept_refl w).alloc (.cells (ints s).toArray 104))
  have SS := Lib.hid hS
  have BB := Lib.hid (show ∀ l, l ≤ 6 → bef s l ≤ 101559956668416 from fun l hl => Nat.le_trans (hS.bef_le l hl) (hS.le18 hn))
  have LP := Lib.hid (show ∀ l, l < 6 → plUp (less1 s l) 6 ≤ 18 from fun l hl => Nat.le_trans (hS.lessPl l hl) hn)
  have RG := Lib.hid (show ∀ l, l < 6 → -1000 ≤ s.getD l 0 ∧ s.getD l 0 ≤ 1000 from fun l hl => by
    have := hS.nat l hl
    have := hS.each l hl
    omega)
  have B1 := Lib.hid (bef_one s)
  rw [row_ints]
  clear hS
  go_enter Try.func124, Try.ntmps124
  go_wp2_with fail
  generalize w.alloc (.cells (ints s).toArray 104) = W at *
  go_loopg [5, 6] (c - 1) (fun gk m i wr => ∃ l : Nat, gk = c - l ∧ 1 ≤ l ∧ l ≤ c ∧ i = .int .i64 l ∧ m = .int .i64 (bef s l : Nat) ∧ Has wr w.heap.size s 6 ∧ Hid (Kept w wr))
  case atStart => exact ⟨1, rfl, by omega, by omega, rfl, by rw [B1.out]; rfl, H, HB⟩
  case round =>
    obtain ⟨l, rfl, hl1, hl, rfl, rfl, GH, GB⟩ := hrel
    by_cases hlt : l < c
    · have hli : (l : Int) < (c : Int) := by omega
      have ES := Lib.hid (bef_succ s l hl1)
      have bb := BB.out (l + 1) (by omega)
      rw [ES.out] at bb
      have rg := RG.out l (by omega)
      have lp := LP.out l (by omega)
      have l6 : (less1 s l).length = 6 := by rw [less1_len]; exact h6
      go_wp2_with (refine load_has rfl 104 _ rfl _ rfl ?_ 6 ?_ _ Try.underlying104 rfl ?_ ?_; rotate_left; (· (repeat (first | (with_reducible assumption) | ((with_reducible refine Has.box _ _ ?_ ?_) <;> (first | assumption | decide)) | (with_reducible refine Has.alloc ?_ _) | ((with_reducible refine Has.putOther ?_ _ _ ?_); rotate_left; omega; skip) | ((with_reducible refine Has.below ?_ ?_); rotate_left; assumption)))); (· kernel_rfl))
      refine (without_any s l _ h6 (by omega) rg).mono ?_
      rintro e w1 ⟨rfl, b1⟩
      have GH1 := GH.below b1
      have GB1 := Lib.hid (GB.out.call b1)
      clear GH GB b1 rg
      go_wp2_with fail
      refine (orders_any (less1 s l) _ l6 lp).mono ?_
      rintro e w2 ⟨rfl, b2⟩
      have GH2 := GH1.below b2
      have GB2 := Lib.hid (GB1.out.call b2)
      clear GH1 GB1 b2
      generalize bef s l = x at *
      generalize ordA (less1 s l) = y at *
      have hx : x < 1000000000000000 := by omega
      have hy : y < 1000000000000000 := by omega
      go_wp2_with fail
      go_roundg (c - (l + 1))
      case rel => exact ⟨l + 1, rfl, by omega, by omega, by go_num, by rw [ES.out]; go_num, GH2, GB2⟩
      case measure => omega
    · obtain rfl : l = c := by omega
      go_wp2_with fail
      go_ret
      exact ⟨rfl, GB.out⟩

section
variable {P : Program} {ops : Array Oper} {rest : List Oper} {op : Oper} {a : Act} {w : World} {Q : Exit → Act → World → Prop}
theorem slice_hi (hw : Region.wanted op (yielded ops a.tmps) = true) (T : TypeId) (x z : Operand) (ho : op.op = .slice T x none (some z) none) (u q v : Value) (hx : a.eval x = u) (hz : a.eval z = q)
    (hq : (Instr.sliceAt T u none (some q) none).run P w = .ok v w)
    (h : wpList P ops Q rest (a.put op.dst v) w) : wpList P ops Q (op :: rest) a w :=
  wpList_wanted hw fun _ hK => by
    unfold Oper.wp execOp
    simp only [ho, hx, hz, Option.map_some, Option.map_none, Sem.run_bind, hq, Result.andThen_ok, Sem.run_pure]
    exact hK _ _ h
end
theorem slice4 (d q : Nat) (hq : q ≤ 4) (w : World) : (Instr.sliceAt 37 (.pointer (some ⟨d, 0, none⟩)) none (some (.int .i64 (q : Int))) none).run Try.prog w = .ok (.slice (some ⟨d, 0, none⟩) q 4) w := by
  have : q = 0 ∨ q = 1 ∨ q = 2 ∨ q = 3 ∨ q = 4 := by omega
  rcases this with rfl | rfl | rfl | rfl | rfl <;> exact (show _ = _ from by kernel_rfl)

end Go.Proofs.Ytemiljokdedidac.base
