/-
  The rack that a view and its hidden layers make: plain mathematics.
-/
/-
  The candidate with hidden layers, on the program's side, walked.
-/
/-
  The candidate with a rank, on the model's side, walked.
-/
import Derived.Test.YtemiljokdedidacVwMZ
import Derived.Test.YtemiljokdedidacTubeZ
import Derived.Test.YtemiljokdedidacRkW
import Derived.ArgAppend
import Derived.Laws.IdiomCopy
import Derived.Deep.RegionHeld3
import Derived.Test.YtemiljokdedidacOrdW
import Derived.Test.YtemiljokdedidacVwS3

section
namespace Go.Proofs.Ytemiljokdedidac.base
set_option linter.unusedVariables false
set_option linter.unusedSimpArgs false

/-- How many hidden layers lie in the first tubes. -/
def offB (vs : List Int) (i : Nat) : Nat := (belUp vs i).toNat
def madAt (vs hs : List Int) (i q : Nat) : Int := if (q : Int) < vMany vs i - 1 then hs.getD (offB vs i + q) 0 else if (q : Int) = vMany vs i - 1 then vTop vs i else 0
def madT (vs hs : List Int) (i : Nat) : List Int := [madAt vs hs i 0, madAt vs hs i 1, madAt vs hs i 2, madAt vs hs i 3]
def madF (vs hs : List Int) (k j : Nat) : Int := if j / 4 < k then madAt vs hs (j / 4) (j % 4) else 0
def madR (vs hs : List Int) (k : Nat) : List Int := (List.range 24).map (madF vs hs k)
theorem madR_len (vs hs : List Int) (k : Nat) : (madR vs hs k).length = 24 := by unfold madR; rw [List.length_map, List.length_range]
theorem madR_getD (vs hs : List Int) (k j : Nat) (hj : j < 24) : (madR vs hs k).getD j 0 = madF vs hs k j := by
  unfold madR
  rw [List.getD_eq_getElem?_getD, List.getElem?_map, List.getElem?_range hj]; rfl
theorem madR_zero (vs hs : List Int) : madR vs hs 0 = [0, 0, 0, 0, 0, 0, 0, 0, 0, 0, 0, 0, 0, 0, 0, 0, 0, 0, 0, 0, 0, 0, 0, 0] := by
  unfold madR madF
  simp [List.range_succ]
theorem madR_tub (vs hs : List Int) (k i : Nat) (hi : i < 6) : tub (madR vs hs k) i = if i < k then madT vs hs i else [0, 0, 0, 0] := by
  have hl := tub_len (madR vs hs k) i (madR_len vs hs k) hi
  have g : ∀ q, q < 4 → (tub (madR vs hs k) i).getD q 0 = if i < k then madAt vs hs i q else 0 := fun q hq => by
    rw [tub_getD _ _ _ hq, madR_getD _ _ _ _ (by omega)]
    unfold madF
    rw [show (i * 4 + q) / 4 = i by omega, show (i * 4 + q) % 4 = q by omega]
  obtain ⟨a, b, c, d, e⟩ := len4 hl
  rw [e] at g ⊢
  have g0 := g 0 (by omega); have g1 := g 1 (by omega); have g2 := g 2 (by omega); have g3 := g 3 (by omega)
  simp at g0 g1 g2 g3
  by_cases h : i < k
  · rw [if_pos h] at g0 g1 g2 g3 ⊢
    unfold madT
    rw [g0, g1, g2, g3]
  · rw [if_neg h] at g0 g1 g2 g3 ⊢
    rw [g0, g1, g2, g3]
/-- A part of a tube is put where it was empty. -/
theorem madR_step (vs hs : List Int) (i m : Nat) (hi : i < 6) (fs : List Int) (hf : fs.length = m) (hm : m ≤ 4) (hq : ∀ q, q < m → fs.getD q 0 = madAt vs hs i q) (hz : ∀ q, m ≤ q → q < 4 → madAt vs hs i q = 0) :
    (madR vs hs i).take (i * 4) ++ fs ++ (madR vs hs i).drop (i * 4 + fs.length) = madR vs hs (i + 1) := by
  have l1 := madR_len vs hs i
  apply List.ext_getElem?
  intro j
  have hlen : ((madR vs hs i).take (i * 4) ++ fs ++ (madR vs hs i).drop (i * 4 + fs.length)).length = 24 := by
    simp [l1, hf]; omega
  by_cases hj : j < 24
  · have hl2 : ((madR vs hs i).take (i * 4)).length = i * 4 := by rw [List.length_take, l1]; omega
    have e : ((madR vs hs i).take (i * 4) ++ fs ++ (madR vs hs i).drop (i * 4 + fs.length)).getD j 0 = (madR vs hs (i + 1)).getD j 0 := by
      rw [madR_getD _ _ _ _ hj]
      by_cases h1 : j < i * 4
      · rw [List.getD_eq_getElem?_getD, List.append_assoc, List.getElem?_append_left (by omega), List.getElem?_take, if_pos h1, ← List.getD_eq_getElem?_getD, madR_getD _ _ _ _ hj]
        unfold madF
        rw [if_pos (by omega), if_pos (by omega)]
      · by_cases h2 : j < i * 4 + m
        · rw [List.getD_eq_getElem?_getD, List.append_assoc, List.getElem?_append_right (by omega), hl2, List.getElem?_append_left (by omega), ← List.getD_eq_getElem?_getD, hq _ (by omega)]
          unfold madF
          rw [if_pos (by omega), show j / 4 = i by omega, show j % 4 = j - i * 4 by omega]
        · rw [List.getD_eq_getElem?_getD, List.getElem?_append_right (by rw [List.length_append]; omega), List.length_append, hl2, hf, List.getElem?_drop, show i * 4 + m + (j - (i * 4 + m)) = j by omega, ← List.getD_eq_getElem?_getD, madR_getD _ _ _ _ hj]
          unfold madF
          rw [if_neg (by omega)]
          by_cases h3 : j / 4 < i + 1
          · rw [if_pos h3, show j / 4 = i by omega, show j % 4 = j - i * 4 by omega, hz _ (by omega) (by omega)]
          · rw [if_neg h3]
    rw [List.getD_eq_getElem?_getD, List.getD_eq_getElem?_getD] at e
    rw [List.getElem?_eq_getElem (by omega), List.getElem?_eq_getElem (by rw [madR_len]; omega)] at e ⊢
    simpa using e
  · rw [List.getElem?_eq_none (by omega), List.getElem?_eq_none (by rw [madR_len]; omega)]
theorem offB_succ {vs : List Int} (ht : topV vs = true) (i m : Nat) (hi : i < 6) (hm : vMany vs i = (m : Int)) : offB vs (i + 1) = offB vs i + (m - 1) := by
  have h1 := belUp_in ht i (by omega)
  unfold offB
  rw [belUp, hm]
  split <;> omega
theorem offB_le {vs : List Int} (ht : topV vs = true) (i : Nat) (hi : i ≤ 6) : offB vs i ≤ offB vs 6 := by
  have key : ∀ k, i ≤ k → k ≤ 6 → belUp vs i ≤ belUp vs k := by
    intro k
    induction k with
    | zero => intro h1 _; obtain rfl : i = 0 := by omega
              exact Int.le_refl _
    | succ k ih =>
      intro h1 h2
      by_cases e : i = k + 1
      · subst e; exact Int.le_refl _
      · have := ih (by omega) (by omega)
        have := topV_at ht k (by omega)
        rw [belUp]; split <;> omega
  have := key 6 hi (by omega)
  unfold offB; omega
end Go.Proofs.Ytemiljokdedidac.base
end

section
namespace Go.Proofs.Ytemiljokdedidac.base
open Go.ChangeShapes Go.WideShapes Go.ChangeAt Go.RowKit
set_option linter.unusedVariables false
set_option linter.unusedSimpArgs false

theorem add_lit0 (b o j : Nat) : (⟨b, o, none⟩ : Addr).add j = ⟨b, o + j, none⟩ := by unfold Addr.add; split <;> simp_all
/-- A number is appended to a slice that has no room. -/
theorem wp_append_full {o : Oper} {a : Act} {w : World} {K : Act → World → Prop} {Q : Exit → Act → World → Prop} (s x : Operand) (ho : o.op = .call { callee := .builtin .append, args := #[s, x], argTypes := #[98, 98] })
    (b off n : Nat) (olds : List Int) (hs : a.eval s = .slice (some ⟨b, off, none⟩) n n) (hlo : olds.length = n) (holds : ∀ j, j < n → w.cell? ⟨b, off + j, none⟩ = some (.int .i64 (olds.getD j 0)))
    (d c : Nat) (y : Int) (hx : a.eval x = .slice (some ⟨d, 0, none⟩) 1 c) (hy : w.cell? ⟨d, 0, none⟩ = some (.int .i64 y)) (hn : n ≤ 1000)
    (h : ∀ v' w', Nu w' w.heap.size v' (n + 1) (olds ++ [y]) → w.grownBy w' none → K (a.put o.dst v') w') : Oper.wp Try.prog o a w K Q := by
  obtain ⟨i0, hi, hz0, hz1, hz2⟩ := infoN_parts infoN
  obtain ⟨v', w', hr, h5, h6⟩ := run_append_arg_grows (P := Try.prog) w 98 o.type 3 i0 (.int .i64 0) 1 8 Try.underlying98 hi hz0 hz1 hz2 rfl (by decide) ⟨b, off, none⟩ n n (ints olds) (by rw [ints_len, hlo]; omega)
    (fun j u hu => by
      have hj : j < n := by
        rcases Nat.lt_or_ge j n with h1 | h1
        · exact h1
        · rw [List.getElem?_eq_none (by rw [ints_len, hlo]; exact h1)] at hu; cases hu
      rw [add_lit0, holds j hj, ← hu, ints_get _ _ (by omega)])
    ⟨d, 0, none⟩ 1 c [.int .i64 y] rfl (fun j u hu => by
      cases j with
      | zero =>
        rw [add_lit0]
        simp at hu
        rw [← hu]; exact hy
      | succ j => simp at hu) (by omega) (by unfold maxLen; omega) (by omega)
  unfold Oper.wp execOp
  simp only [ho, resolve, invoke, builtin, Sem.run_bind, Sem.run_pure, Result.andThen_ok, List.map_toArray, List.map_cons, List.map_nil, hs, hx, hr]
  refine h v' w' ?_ h6
  unfold Nu
  rw [ints_app]; exact h5
/-- Numbers are copied into a part of an array. -/
theorem wp_copy_part {o : Oper} {a : Act} {w : World} {K : Act → World → Prop} {Q : Exit → Act → World → Prop} (d s : Operand) (ho : o.op = .call { callee := .builtin .copy, args := #[d, s], argTypes := #[98, 98] })
    (b off n : Nat) (rs : List Int) (hd : a.eval d = .slice (some ⟨b, off, none⟩) 4 4) (H : Has w b rs n) (hoff : off + 4 ≤ n)
    (base m : Nat) (v : Value) (fs : List Int) (hs : a.eval s = v) (N : Nu w base v m fs) (h1 : 1 ≤ m) (hm : m ≤ 4)
    (h : ∀ z, K (a.put o.dst z) (w.setCells b off (ints fs))) : Oper.wp Try.prog o a w K Q := by
  obtain ⟨g, cap, rfl, _, _⟩ := N.form (by omega)
  have hf := N.flat
  have hr := run_copy_cells (P := Try.prog) w 98 98 o.type 3 b off 4 4 ⟨g, 0, none⟩ m cap (ints fs) Try.underlying98 (by kernel_rfl) (by rw [ints_len, hf]; exact (Nat.min_eq_left hm).symm)
    (fun j u hu => by
      have hj : j < m := by
        rcases Nat.lt_or_ge j m with h1 | h1
        · exact h1
        · rw [List.getElem?_eq_none (by rw [ints_len, hf]; exact h1)] at hu; cases hu
      rw [add_lit0, Nat.zero_add, N.cell j hj, ← hu, ints_get _ _ (by omega)])
    (fun j hj => by rw [H.cell _ (by rw [ints_len] at hj; omega)]; rfl) (fun j hj => H.free _ (by rw [ints_len] at hj; omega)) (ints_one fs)
  unfold Oper.wp execOp
  simp only [ho, resolve, invoke, builtin, Sem.run_bind, Sem.run_pure, Result.andThen_ok, List.map_toArray, List.map_cons, List.map_nil, hd, hs, hr]
  exact h _

section
variable {P : Program} {ops : Array Oper} {rest : List Oper} {op : Oper} {a : Act} {w : World} {Q : Exit → Act → World → Prop}
theorem slice_hm (hw : Region.wanted op (yielded ops a.tmps) = true) (T : TypeId) (x y z : Operand) (ho : op.op = .slice T x none (some y) (some z)) (u p q v : Value) (hx : a.eval x = u) (hy : a.eval y = p) (hz : a.eval z = q)
    (hq : (Instr.sliceAt T u none (some p) (some q)).run P w = .ok v w)
    (h : wpList P ops Q rest (a.put op.dst v) w) : wpList P ops Q (op :: rest) a w :=
  wpList_wanted hw fun _ hK => by
    unfold Oper.wp execOp
    simp only [ho, hx, hy, hz, Option.map_some, Option.map_none, Sem.run_bind, hq, Result.andThen_ok, Sem.run_pure]
    exact hK _ _ h
theorem slice_lo (hw : Region.wanted op (yielded ops a.tmps) = true) (T : TypeId) (x y : Operand) (ho : op.op = .slice T x (some y) none none) (u p v : Value) (hx : a.eval x = u) (hy : a.eval y = p)
    (hq : (Instr.sliceAt T u (some p) none none).run P w = .ok v w)
    (h : wpList P ops Q rest (a.put op.dst v) w) : wpList P ops Q (op :: rest) a w :=
  wpList_wanted hw fun _ hK => by
    unfold Oper.wp execOp
    simp only [ho, hx, hy, Option.map_some, Option.map_none, Sem.run_bind, hq, Result.andThen_ok, Sem.run_pure]
    exact hK _ _ h
end
theorem elemI : Try.prog.underlying 98 = some (.slice (Try.prog.elem 98)) := by kernel_rfl
theorem sizeE (w : World) : (sizeOf (Try.prog.elem 98)).run Try.prog w = .ok 1 w := by kernel_rfl
theorem run_hm (g o len cap q : Nat) (hq : q ≤ cap) (w : World) : (Instr.sliceAt 98 (.slice (some ⟨g, o, none⟩) len cap) none (some (.int .i64 (q : Int))) (some (.int .i64 (q : Int)))).run Try.prog w = .ok (.slice (some ⟨g, o, none⟩) q q) w := by
  rw [run_sliceAt_slice w 98 _ _ _ _ elemI, run_slice_hm w 98 (some ⟨g, o, none⟩) len cap elemI .i64 .i64 (q : Int) (q : Int) (by omega) (Int.le_refl _) (by omega), sizeE]
  simp only [Result.andThen_ok, sliced, Int.toNat_natCast, Nat.zero_mul, Nat.sub_zero, Option.map_some]
  have e : (⟨g, o, none⟩ : Addr).add 0 = ⟨g, o, none⟩ := rfl
  rw [e]; split <;> rfl
def movO (o cap q : Nat) : Nat := if cap = q then o else o + q
theorem run_lo (g o len cap q : Nat) (hq : q ≤ len) (w : World) : (Instr.sliceAt 98 (.slice (some ⟨g, o, none⟩) len cap) (some (.int .i64 (q : Int))) none none).run Try.prog w = .ok (.slice (some ⟨g, movO o cap q, none⟩) (len - q) (cap - q)) w := by
  rw [run_sliceAt_slice w 98 _ _ _ _ elemI, run_slice_l w 98 (some ⟨g, o, none⟩) len cap elemI .i64 (q : Int) (by omega) (by omega), sizeE]
  simp only [Result.andThen_ok, sliced, Int.toNat_natCast, Nat.mul_one, Option.map_some, add_lit0]
  unfold movO
  by_cases h : cap = q
  · rw [if_pos h, if_pos h]
  · rw [if_neg h, if_neg h]

theorem Has.tCell {w : World} {b : Nat} {vs : List Int} (h : Has w b vs 18) (k : Nat) (hk : k < 6) : w.cell? ⟨b, k, none⟩ = some (.int .i64 (vTop vs k)) := by
  have := h.vCell 0 k (by omega) hk
  simp only [Nat.zero_mul, Nat.zero_add] at this
  exact this
theorem Has.putPart {w : World} {b n : Nat} {F : List Int} (h : Has w b F n) (o : Nat) (ms : List Int) (hl : o + ms.length ≤ n) : Has (w.setCells b o (ints ms)) b (F.take o ++ ms ++ F.drop (o + ms.length)) n :=
  ⟨h.holds.putInts o ms (by rw [h.len]; exact hl), by have := h.len; simp; omega, h.pos⟩

set_option maxHeartbeats 3200000 in
set_option maxRecDepth 100000 in
theorem withHidden_any (vs hs : List Int) (g n cap b : Nat) (w : World) (h : vs.length = 18) (ht : topV vs = true) (hn : offB vs 6 = n) (hn18 : n ≤ 18) (hN : Nu w b (.slice (some ⟨g, 0, none⟩) n cap) n hs) :
    Calls Try.prog 102 #[row vs, .slice (some ⟨g, 0, none⟩) n cap] w fun e w' => e = .returned (.agg (ints (madR vs hs 6)).toArray) ∧ Kept w w' := by
  have hcap : n ≤ cap := by
    unfold Nu World.ownsRow at hN
    rcases hN.2 with ⟨h0, _⟩ | ⟨g', cap', cur, hv, _, _, hc, _⟩
    · cases h0
    · injection hv with _ _ e3; omega
  have hgw := (hN.own g rfl).2
  have H := ((Has.box w 28 h (by omega)).alloc (.cells #[.int .i64 0, .int .i64 0, .int .i64 0, .int .i64 0, .int .i64 0, .int .i64 0, .int .i64 0, .int .i64 0, .int .i64 0, .int .i64 0, .int .i64 0, .int .i64 0, .int .i64 0, .int .i64 0, .int .i64 0, .int .i64 0, .int .i64 0, .int .i64 0, .int .i64 0, .int .i64 0, .int .i64 0, .int .i64 0, .int .i64 0, .int .i64 0] 42)).alloc (.cells (ints z24).toArray 42)
  have Z := ((Has.zero24 (w.alloc (.cells (ints vs).toArray 28)) 42).at (size1 _ _)).alloc (.cells (ints z24).toArray 42)
  have Y := ((Has.box ((w.alloc (.cells (ints vs).toArray 28)).alloc (.cells #[.int .i64 0, .int .i64 0, .int .i64 0, .int .i64 0, .int .i64 0, .int .i64 0, .int .i64 0, .int .i64 0, .int .i64 0, .int .i64 0, .int .i64 0, .int .i64 0, .int .i64 0, .int .i64 0, .int .i64 0, .int .i64 0, .int .i64 0, .int .i64 0, .int .i64 0, .int .i64 0, .int .i64 0, .int .i64 0, .int .i64 0, .int .i64 0] 42)) 42 (ns := z24) (n := 24) rfl (by decide)).at (c := w.heap.size + 1 + 1) (by simp)).asV (madR_zero vs hs).symm
  have HN := Lib.hid (((hN.alloc (.cells (ints vs).toArray 28)).alloc (.cells #[.int .i64 0, .int .i64 0, .int .i64 0, .int .i64 0, .int .i64 0, .int .i64 0, .int .i64 0, .int .i64 0, .int .i64 0, .int .i64 0, .int .i64 0, .int .i64 0, .int .i64 0, .int .i64 0, .int .i64 0, .int .i64 0, .int .i64 0, .int .i64 0, .int .i64 0, .int .i64 0, .int .i64 0, .int .i64 0, .int .i64 0, .int .i64 0] 42)).alloc (.cells (ints z24).toArray 42))
  have HB := Lib.hid ((((kept_refl w).alloc (.cells (ints vs).toArray 28)).alloc (.cells #[.int .i64 0, .int .i64 0, .int .i64 0, .int .i64 0, .int .i64 0, .int .i64 0, .int .i64 0, .int .i64 0, .int .i64 0, .int .i64 0, .int .i64 0, .int .i64 0, .int .i64 0, .int .i64 0, .int .i64 0, .int .i64 0, .int .i64 0, .int .i64 0, .int .i64 0, .int .i64 0, .int .i64 0, .int .i64 0, .int .i64 0, .int .i64 0] 42)).alloc (.cells (ints z24).toArray 42))
  have HG := Lib.hid (fun k hk w => index6v 22 Try.underlying22 (prt vs 1) (prt_len vs 1 h (by omega)) k hk w)
  have HT := Lib.hid (fun i hi => topV_at ht i hi)
  have OS := Lib.hid (fun i m hi hm => offB_succ ht i m hi hm)
  have OL := Lib.hid (fun i hi => offB_le ht i hi)
  have hz : z24.length = 24 := rfl
  rw [row_ints]
  clear hN ht h
  go_enter Try.func102, Try.ntmps102
  go_upto_region 3 with (first | (refine build_law rfl 42 rfl _ buildRack ?_) | (refine store_new rfl 42 _ _ rfl _ _ _ rfl _ (by simp) z24 rfl rfl ?_ ?_ ?_; (· (first | assumption | rfl)); (· kernel_rfl)) | (refine load_prt rfl 22 _ rfl _ (1) _ rfl ?_ ?_ ?_ ?_ _ Try.underlying22 rfl ?_ ?_; (· (first | rfl | omega)); rotate_left; (· (repeat (first | (with_reducible assumption) | ((with_reducible refine Has.box _ _ ?_ ?_) <;> (first | assumption | decide)) | (with_reducible refine Has.alloc ?_ _) | ((with_reducible refine Has.putOther ?_ _ _ ?_); rotate_left; omega; skip) | ((with_reducible refine Has.below ?_ ?_); rotate_left; assumption)))); (· omega); (· kernel_rfl)))
  generalize (((w.alloc (.cells (ints vs).toArray 28)).alloc (.cells #[.int .i64 0, .int .i64 0, .int .i64 0, .int .i64 0, .int .i64 0, .int .i64 0, .int .i64 0, .int .i64 0, .int .i64 0, .int .i64 0, .int .i64 0, .int .i64 0, .int .i64 0, .int .i64 0, .int .i64 0, .int .i64 0, .int .i64 0, .int .i64 0, .int .i64 0, .int .i64 0, .int .i64 0, .int .i64 0, .int .i64 0, .int .i64 0] 42)).alloc (.cells (ints z24).toArray 42)) = W at *
  go_loopg [1, 13] 6 (fun gk u i wr => ∃ k o cp : Nat, gk = 6 - k ∧ k ≤ 6 ∧ i = .int .i64 k ∧ u = .slice (some ⟨g, o, none⟩) (n - offB vs k) cp ∧ n - offB vs k ≤ cp ∧ Hid (offB vs k < n → o = offB vs k) ∧ Has wr w.heap.size vs 18 ∧ Has wr (w.heap.size + 1) z24 24 ∧ Has wr (w.heap.size + 1 + 1) (madR vs hs k) 24 ∧ Hid (Nu wr b (.slice (some ⟨g, 0, none⟩) n cap) n hs) ∧ Hid (Kept w wr))
  case atStart => exact ⟨0, 0, cap, rfl, by omega, rfl, rfl, by show n - 0 ≤ cap; omega, Lib.hid (fun _ => rfl), H, Z, Y, HN, HB⟩
  case round =>
    clear H Z Y HN HB
    obtain ⟨k, o, cp, rfl, hk, rfl, rfl, hcp, HO, GH, GZ, GY, GN, GB⟩ := hrel
    by_cases hlt : k < 6
    · have hki : (k : Int) < 6 := by omega
      have tk := HT.out k hlt
      obtain ⟨m, hm⟩ : ∃ m : Nat, vMany vs k = (m : Int) := ⟨(vMany vs k).toNat, by omega⟩
      have hm4 : m ≤ 4 := by omega
      have g0 := HG.out k hlt
      have e1 : (prt vs 1).getD k 0 = (m : Int) := hm
      rw [e1] at g0
      obtain ⟨q, hq⟩ : ∃ q, q = m - 1 := ⟨_, rfl⟩
      have os := OS.out k m hlt hm
      have ol := OL.out (k + 1) (by omega)
      rw [hn, os, ← hq] at ol
      have EO := Lib.hid (show offB vs (k + 1) = offB vs k + q by rw [os, hq])
      have AT := Lib.hid (show ∀ j, j < 4 → madAt vs hs k j = if j < q then hs.getD (offB vs k + j) 0 else if j + 1 = m then vTop vs k else 0 from fun j hj => by
        unfold madAt
        rw [hm]
        by_cases h1 : j < q
        · rw [if_pos h1, if_pos (by omega)]
        · rw [if_neg h1, if_neg (by omega)]
          by_cases h2 : j + 1 = m
          · rw [if_pos h2, if_pos (by omega)]
          · rw [if_neg h2, if_neg (by omega)])
      have TZ := Lib.hid (show m = 0 → vTop vs k = 0 from fun h => by omega)
      have c0 := GH.vCell 0 k (by omega) hlt
      have e0 : (prt vs 0).getD k 0 = vTop vs k := rfl
      rw [e0] at c0
      simp only [Nat.zero_mul, Nat.zero_add] at c0
      have hmq : m = 0 ∧ q = 0 ∨ m = q + 1 := by omega
      clear e0 e1 tk os
      generalize hoff : offB vs k = off at *
      have HOFF := Lib.hid hoff
      clear hoff
      have hcq : q ≤ cp := by omega
      have hlq : q ≤ n - off := by omega
      have K1 := Lib.hid (run_hm g o (n - off) cp q hcq)
      have K2 := Lib.hid (run_lo g o (n - off) cp q hlq)
      have HM := Lib.hid hm
      have HQ := Lib.hid hq
      clear hm hq
      rcases hmq with ⟨rfl, rfl⟩ | rfl
      · skip
        go_upto_region 7 with (refine slice_hm rfl 98 _ _ _ rfl (.slice (some ⟨g, o, none⟩) (n - off) cp) (.int .i64 _) (.int .i64 _) _ ?_ ?_ ?_ (K1.out _) ?_; (· rfl); (· rfl); (· rfl))
        have hli : k * 4 + 4 ≤ 24 := by omega
        refine wp_region_held_drew (S := fun w' => Has w' w.heap.size vs 18 ∧ (∃ zs, Has w' (w.heap.size + 1 + 1) zs 24)) (by kernel_rfl) ⟨GH.drew, ⟨_, GY.drew⟩⟩ (fun hHeld => ?_)
        have D1 := GZ.drew
        have D2 := GY.drew
        have D3 := Lib.hid (GN.out.drewN 1)
        have D4 := Lib.hid (GB.out.drewN 1)
        change Hid (Nu (World.drew wr) _ _ _ _) at D3
        change Hid (Kept _ (World.drew wr)) at D4
        clear GZ GY GN GB GH c0
        generalize World.drew wr = WD at *
        (refine wpAnyH_take (i := 0) (v := ?_) rfl (by kernel_rfl) (by kernel_rfl) (by kernel_rfl) (fun _ _ _ h => h) (Or.inl ⟨by rfl, ?_⟩) hHeld ?_; rotate_left; (· (intro w' hSw; go_simp; try with_reducible rfl)); (try simp only [List.getElem_toArray, List.getElem_cons_zero, List.getElem_cons_succ, Act.put, List.setIfInBounds_toArray, List.set_cons_zero, List.set_cons_succ])); (refine wpAnyH_take (i := 1) (v := ?_) rfl (by kernel_rfl) (by kernel_rfl) (by kernel_rfl) (fun _ _ _ h => h) (Or.inl ⟨by rfl, ?_⟩) hHeld ?_; rotate_left; (· (intro w' hSw; go_simp; try with_reducible rfl)); (try simp only [List.getElem_toArray, List.getElem_cons_zero, List.getElem_cons_succ, Act.put, List.setIfInBounds_toArray, List.set_cons_zero, List.set_cons_succ])); (refine wpAnyH_take (i := 2) (v := ?_) rfl (by kernel_rfl) (by kernel_rfl) (by kernel_rfl) (fun _ _ _ h => h) (Or.inl ⟨by rfl, ?_⟩) hHeld ?_; rotate_left; (· (intro w' hSw; go_simp; try with_reducible rfl)); (try simp only [List.getElem_toArray, List.getElem_cons_zero, List.getElem_cons_succ, Act.put, List.setIfInBounds_toArray, List.set_cons_zero, List.set_cons_succ])); (refine wpAnyH_take (i := 4) (v := ?_) rfl (by kernel_rfl) (by kernel_rfl) (by kernel_rfl) (fun _ _ _ h => h) (Or.inl ⟨by rfl, ?_⟩) hHeld ?_; rotate_left; (· (intro w' hSw; go_simp; try with_reducible rfl)); (try simp only [List.getElem_toArray, List.getElem_cons_zero, List.getElem_cons_succ, Act.put, List.setIfInBounds_toArray, List.set_cons_zero, List.set_cons_succ])); (refine wpAnyH_take (i := 5) (v := ?_) rfl (by kernel_rfl) (by kernel_rfl) (by kernel_rfl) (fun _ _ _ h => h) (Or.inl ⟨by rfl, ?_⟩) hHeld ?_; rotate_left; (· (intro w' hSw; go_simp; try with_reducible rfl)); (try simp only [List.getElem_toArray, List.getElem_cons_zero, List.getElem_cons_succ, Act.put, List.setIfInBounds_toArray, List.set_cons_zero, List.set_cons_succ])); (refine wpAnyH_take (i := 6) (v := ?_) rfl (by kernel_rfl) (by kernel_rfl) (by kernel_rfl) (fun _ _ _ h => h) (Or.inl ⟨by rfl, ?_⟩) hHeld ?_; rotate_left; (· (intro w' hSw; go_simp; try with_reducible rfl)); (try simp only [List.getElem_toArray, List.getElem_cons_zero, List.getElem_cons_succ, Act.put, List.setIfInBounds_toArray, List.set_cons_zero, List.set_cons_succ])); (refine wpAnyH_take (i := 7) (v := ?_) rfl (by kernel_rfl) (by kernel_rfl) (by kernel_rfl) (fun _ _ _ h => h) (Or.inl ⟨by rfl, ?_⟩) hHeld ?_; rotate_left; (· (intro w' hSw; go_simp; try with_reducible rfl)); (try simp only [List.getElem_toArray, List.getElem_cons_zero, List.getElem_cons_succ, Act.put, List.setIfInBounds_toArray, List.set_cons_zero, List.set_cons_succ]))
        (refine wpAnyH_take (i := 8) (v := .int .i64 (vTop vs k)) rfl (by kernel_rfl) (by kernel_rfl) (by kernel_rfl) (fun _ _ _ h => h) (Or.inl ⟨by rfl, ?_⟩) hHeld ?_; (· (intro w' hSw; have q := hSw.1.tCell k hlt; clear hSw; go_simp; try with_reducible rfl)); (try simp only [List.getElem_toArray, List.getElem_cons_zero, List.getElem_cons_succ, Act.put, List.setIfInBounds_toArray, List.set_cons_zero, List.set_cons_succ]))
        (refine wpAnyH_take (i := 3) (v := ?_) rfl (by kernel_rfl) (by kernel_rfl) (by kernel_rfl) (fun _ _ _ h => h) (Or.inl ⟨by rfl, ?_⟩) hHeld ?_; rotate_left; (· (intro w' hSw; go_simp; try with_reducible rfl)); (try simp only [List.getElem_toArray, List.getElem_cons_zero, List.getElem_cons_succ, Act.put, List.setIfInBounds_toArray, List.set_cons_zero, List.set_cons_succ]))
        (refine wpAnyH_ready (rs := [9]) (by kernel_rfl) (by simp) ?_; refine AllReadyH.cons (o := _) rfl (fun K hK => ?_) AllReadyH.nil; (simp only [List.getElem_toArray, List.getElem_cons_zero, List.getElem_cons_succ, Region.wanted, if_true]))
        go_simp
        (try simp only [List.getElem_toArray, List.getElem_cons_zero, List.getElem_cons_succ, Act.put, List.setIfInBounds_toArray, List.set_cons_zero, List.set_cons_succ])
        refine hK.out _ _ ⟨hHeld.1.alloc _, ⟨_, hHeld.2.choose_spec.alloc _⟩⟩ (fun hHeld => ?_)
        clear hK K
        have lD := D2.lt
        have cnew := cell_one_new WD (.int .i64 (vTop vs k)) 3
        have hy : (WD.alloc (.cells #[.int .i64 (vTop vs k)] 3)).cell? ⟨WD.heap.size, 0, none⟩ = some (.int .i64 (vTop vs k)) := cnew 0 _ rfl
        replace D1 := D1.alloc (.cells #[.int .i64 (vTop vs k)] 3)
        replace D2 := D2.alloc (.cells #[.int .i64 (vTop vs k)] 3)
        replace D3 := Lib.hid (D3.out.alloc (.cells #[.int .i64 (vTop vs k)] 3))
        replace D4 := Lib.hid (D4.out.alloc (.cells #[.int .i64 (vTop vs k)] 3))
        clear cnew
        generalize WD.alloc (.cells #[.int .i64 (vTop vs k)] 3) = WE at *
        generalize WD.heap.size = d at *
        have hfl := D3.out.flat
        have lb := (D3.out.own g rfl).1
        refine wpAnyH_ready (rs := [10]) (by kernel_rfl) (by simp) ?_
        refine AllReadyH.cons (o := _) rfl (fun K hK => ?_) AllReadyH.nil
        (simp only [List.getElem_toArray, List.getElem_cons_zero, List.getElem_cons_succ, Region.wanted, if_true])
        have FL : ((hs.drop off).take 0).length = 0 := by rw [List.length_take, List.length_drop]; omega
        have FG : ∀ j, j < 0 → ((hs.drop off).take 0).getD j 0 = hs.getD (off + j) 0 := fun j hj => by
          rw [List.getD_eq_getElem?_getD, List.getElem?_take, if_pos hj, List.getElem?_drop, ← List.getD_eq_getElem?_getD]
        refine wp_append_full _ _ rfl g o 0 ((hs.drop off).take 0) rfl FL (fun j hj => ?_) d 1 (vTop vs k) rfl hy (by omega) ?_
        · rw [FG j hj, HO.out (by omega)]
          exact D3.out.cell (off + j) (by omega)
        intro v' w6 NV hgr
        (try simp only [List.getElem_toArray, List.getElem_cons_zero, List.getElem_cons_succ, Act.put, List.setIfInBounds_toArray, List.set_cons_zero, List.set_cons_succ])
        have D2a := D2.beside hgr (fun e => by cases e)
        have D0a := hHeld.1.beside hgr (fun e => by cases e)
        refine hK.out _ _ ⟨D0a, ⟨_, D2a⟩⟩ (fun hHeld => ?_)
        clear hK K
        replace D1 := D1.beside hgr (fun e => by cases e)
        replace D3 := Lib.hid (D3.out.grownP hgr (fun z hz => by cases hz))
        replace D4 : Hid (Kept w w6) := Lib.hid (D4.out.grown hgr D4.out.size (fun z hz => by cases hz))
        have FL2 : ((hs.drop off).take 0 ++ [vTop vs k]).length = 0 + 1 := by rw [List.length_append, FL]; rfl
        have FS := madR_step vs hs k (0 + 1) hlt ((hs.drop off).take 0 ++ [vTop vs k]) FL2 (by omega) (fun j hj => by
          rw [AT.out j (by omega)]
          by_cases h1 : j < 0
          · rw [if_pos h1, List.getD_eq_getElem?_getD, List.getElem?_append_left (by omega), ← List.getD_eq_getElem?_getD, FG j h1]
          · have h2 : j = 0 := by omega
            rw [if_neg h1, List.getD_eq_getElem?_getD, List.getElem?_append_right (by omega), FL, h2, Nat.sub_self]
            rw [if_neg (by omega), TZ.out rfl]; rfl) (fun j h1 h2 => by
          rw [AT.out j h2, if_neg (by omega), if_neg (by omega)])
        refine wpAnyH_ready (rs := [11]) (by kernel_rfl) (by simp) ?_
        refine AllReadyH.cons (o := _) rfl (fun K hK => ?_) AllReadyH.nil
        (simp only [List.getElem_toArray, List.getElem_cons_zero, List.getElem_cons_succ, Region.wanted, if_true])
        refine wp_copy_part _ _ rfl (w.heap.size + 1 + 1) (k * 4) 24 (madR vs hs k) rfl D2a hli WE.heap.size (0 + 1) v' _ rfl NV (by omega) (by omega) ?_
        intro z
        (try simp only [List.getElem_toArray, List.getElem_cons_zero, List.getElem_cons_succ, Act.put, List.setIfInBounds_toArray, List.set_cons_zero, List.set_cons_succ])
        have M2 := D2a.putPart (k * 4) ((hs.drop off).take 0 ++ [vTop vs k]) (by omega)
        rw [FS] at M2
        have M0 := D0a.putOther (b' := w.heap.size + 1 + 1) (k * 4) (ints ((hs.drop off).take 0 ++ [vTop vs k])) (by omega)
        have M1 := D1.putOther (b' := w.heap.size + 1 + 1) (k * 4) (ints ((hs.drop off).take 0 ++ [vTop vs k])) (by omega)
        have M3 := Lib.hid (D3.out.asideV (w.heap.size + 1 + 1) (k * 4) (ints ((hs.drop off).take 0 ++ [vTop vs k])) (fun x hx => by have hx := Option.some.inj (show some g = some x from hx); omega))
        have M4 := Lib.hid (D4.out.puts (b := w.heap.size + 1 + 1) (by omega) (k * 4) (ints ((hs.drop off).take 0 ++ [vTop vs k])))
        refine hK.out _ _ ⟨M0, ⟨_, M2⟩⟩ (fun hHeld => ?_)
        clear hK K
        refine wpAnyH_done (by kernel_rfl) ?_ _
        clear hHeld D1 D2 D2a D0a D3 D4 NV hgr hy FS FG FL FL2
        have M2 := Lib.hid M2
        have M0 := Lib.hid M0
        have M1 := Lib.hid M1
        generalize w6.setCells (w.heap.size + 1 + 1) (k * 4) (ints ((hs.drop off).take 0 ++ [vTop vs k])) = W7 at *
        go_wp2_with (refine slice_lo rfl 98 _ _ rfl (.slice (some ⟨g, o, none⟩) (n - off) cp) (.int .i64 _) _ ?_ ?_ (K2.out _) ?_; (· rfl); (· rfl))
        go_roundg (6 - (k + 1))
        case rel => exact ⟨k + 1, movO o cp 0, cp - 0, rfl, by omega, by go_num, by rw [EO.out, show n - (off + 0) = n - off - 0 by omega]; try rfl, by rw [EO.out]; omega, Lib.hid (fun hx => by rw [EO.out] at hx ⊢; rw [HO.out (by omega)]; unfold movO; split <;> omega), M0.out, M1.out, M2.out, M3, M4⟩
        case measure => omega
      · skip
        go_upto_region 7 with (refine slice_hm rfl 98 _ _ _ rfl (.slice (some ⟨g, o, none⟩) (n - off) cp) (.int .i64 _) (.int .i64 _) _ ?_ ?_ ?_ (K1.out _) ?_; (· rfl); (· rfl); (· rfl))
        have hli : k * 4 + 4 ≤ 24 := by omega
        refine wp_region_held_drew (S := fun w' => Has w' w.heap.size vs 18 ∧ (∃ zs, Has w' (w.heap.size + 1 + 1) zs 24)) (by kernel_rfl) ⟨GH.drew, ⟨_, GY.drew⟩⟩ (fun hHeld => ?_)
        have D1 := GZ.drew
        have D2 := GY.drew
        have D3 := Lib.hid (GN.out.drewN 1)
        have D4 := Lib.hid (GB.out.drewN 1)
        change Hid (Nu (World.drew wr) _ _ _ _) at D3
        change Hid (Kept _ (World.drew wr)) at D4
        clear GZ GY GN GB GH c0
        generalize World.drew wr = WD at *
        (refine wpAnyH_take (i := 0) (v := ?_) rfl (by kernel_rfl) (by kernel_rfl) (by kernel_rfl) (fun _ _ _ h => h) (Or.inl ⟨by rfl, ?_⟩) hHeld ?_; rotate_left; (· (intro w' hSw; go_simp; try with_reducible rfl)); (try simp only [List.getElem_toArray, List.getElem_cons_zero, List.getElem_cons_succ, Act.put, List.setIfInBounds_toArray, List.set_cons_zero, List.set_cons_succ])); (refine wpAnyH_take (i := 1) (v := ?_) rfl (by kernel_rfl) (by kernel_rfl) (by kernel_rfl) (fun _ _ _ h => h) (Or.inl ⟨by rfl, ?_⟩) hHeld ?_; rotate_left; (· (intro w' hSw; go_simp; try with_reducible rfl)); (try simp only [List.getElem_toArray, List.getElem_cons_zero, List.getElem_cons_succ, Act.put, List.setIfInBounds_toArray, List.set_cons_zero, List.set_cons_succ])); (refine wpAnyH_take (i := 2) (v := ?_) rfl (by kernel_rfl) (by kernel_rfl) (by kernel_rfl) (fun _ _ _ h => h) (Or.inl ⟨by rfl, ?_⟩) hHeld ?_; rotate_left; (· (intro w' hSw; go_simp; try with_reducible rfl)); (try simp only [List.getElem_toArray, List.getElem_cons_zero, List.getElem_cons_succ, Act.put, List.setIfInBounds_toArray, List.set_cons_zero, List.set_cons_succ])); (refine wpAnyH_take (i := 4) (v := ?_) rfl (by kernel_rfl) (by kernel_rfl) (by kernel_rfl) (fun _ _ _ h => h) (Or.inl ⟨by rfl, ?_⟩) hHeld ?_; rotate_left; (· (intro w' hSw; go_simp; try with_reducible rfl)); (try simp only [List.getElem_toArray, List.getElem_cons_zero, List.getElem_cons_succ, Act.put, List.setIfInBounds_toArray, List.set_cons_zero, List.set_cons_succ])); (refine wpAnyH_take (i := 5) (v := ?_) rfl (by kernel_rfl) (by kernel_rfl) (by kernel_rfl) (fun _ _ _ h => h) (Or.inl ⟨by rfl, ?_⟩) hHeld ?_; rotate_left; (· (intro w' hSw; go_simp; try with_reducible rfl)); (try simp only [List.getElem_toArray, List.getElem_cons_zero, List.getElem_cons_succ, Act.put, List.setIfInBounds_toArray, List.set_cons_zero, List.set_cons_succ])); (refine wpAnyH_take (i := 6) (v := ?_) rfl (by kernel_rfl) (by kernel_rfl) (by kernel_rfl) (fun _ _ _ h => h) (Or.inl ⟨by rfl, ?_⟩) hHeld ?_; rotate_left; (· (intro w' hSw; go_simp; try with_reducible rfl)); (try simp only [List.getElem_toArray, List.getElem_cons_zero, List.getElem_cons_succ, Act.put, List.setIfInBounds_toArray, List.set_cons_zero, List.set_cons_succ])); (refine wpAnyH_take (i := 7) (v := ?_) rfl (by kernel_rfl) (by kernel_rfl) (by kernel_rfl) (fun _ _ _ h => h) (Or.inl ⟨by rfl, ?_⟩) hHeld ?_; rotate_left; (· (intro w' hSw; go_simp; try with_reducible rfl)); (try simp only [List.getElem_toArray, List.getElem_cons_zero, List.getElem_cons_succ, Act.put, List.setIfInBounds_toArray, List.set_cons_zero, List.set_cons_succ]))
        (refine wpAnyH_take (i := 8) (v := .int .i64 (vTop vs k)) rfl (by kernel_rfl) (by kernel_rfl) (by kernel_rfl) (fun _ _ _ h => h) (Or.inl ⟨by rfl, ?_⟩) hHeld ?_; (· (intro w' hSw; have q := hSw.1.tCell k hlt; clear hSw; go_simp; try with_reducible rfl)); (try simp only [List.getElem_toArray, List.getElem_cons_zero, List.getElem_cons_succ, Act.put, List.setIfInBounds_toArray, List.set_cons_zero, List.set_cons_succ]))
        (refine wpAnyH_take (i := 3) (v := ?_) rfl (by kernel_rfl) (by kernel_rfl) (by kernel_rfl) (fun _ _ _ h => h) (Or.inl ⟨by rfl, ?_⟩) hHeld ?_; rotate_left; (· (intro w' hSw; go_simp; try with_reducible rfl)); (try simp only [List.getElem_toArray, List.getElem_cons_zero, List.getElem_cons_succ, Act.put, List.setIfInBounds_toArray, List.set_cons_zero, List.set_cons_succ]))
        (refine wpAnyH_ready (rs := [9]) (by kernel_rfl) (by simp) ?_; refine AllReadyH.cons (o := _) rfl (fun K hK => ?_) AllReadyH.nil; (simp only [List.getElem_toArray, List.getElem_cons_zero, List.getElem_cons_succ, Region.wanted, if_true]))
        go_simp
        (try simp only [List.getElem_toArray, List.getElem_cons_zero, List.getElem_cons_succ, Act.put, List.setIfInBounds_toArray, List.set_cons_zero, List.set_cons_succ])
        refine hK.out _ _ ⟨hHeld.1.alloc _, ⟨_, hHeld.2.choose_spec.alloc _⟩⟩ (fun hHeld => ?_)
        clear hK K
        have lD := D2.lt
        have cnew := cell_one_new WD (.int .i64 (vTop vs k)) 3
        have hy : (WD.alloc (.cells #[.int .i64 (vTop vs k)] 3)).cell? ⟨WD.heap.size, 0, none⟩ = some (.int .i64 (vTop vs k)) := cnew 0 _ rfl
        replace D1 := D1.alloc (.cells #[.int .i64 (vTop vs k)] 3)
        replace D2 := D2.alloc (.cells #[.int .i64 (vTop vs k)] 3)
        replace D3 := Lib.hid (D3.out.alloc (.cells #[.int .i64 (vTop vs k)] 3))
        replace D4 := Lib.hid (D4.out.alloc (.cells #[.int .i64 (vTop vs k)] 3))
        clear cnew
        generalize WD.alloc (.cells #[.int .i64 (vTop vs k)] 3) = WE at *
        generalize WD.heap.size = d at *
        have hfl := D3.out.flat
        have lb := (D3.out.own g rfl).1
        refine wpAnyH_ready (rs := [10]) (by kernel_rfl) (by simp) ?_
        refine AllReadyH.cons (o := _) rfl (fun K hK => ?_) AllReadyH.nil
        (simp only [List.getElem_toArray, List.getElem_cons_zero, List.getElem_cons_succ, Region.wanted, if_true])
        have FL : ((hs.drop off).take q).length = q := by rw [List.length_take, List.length_drop]; omega
        have FG : ∀ j, j < q → ((hs.drop off).take q).getD j 0 = hs.getD (off + j) 0 := fun j hj => by
          rw [List.getD_eq_getElem?_getD, List.getElem?_take, if_pos hj, List.getElem?_drop, ← List.getD_eq_getElem?_getD]
        refine wp_append_full _ _ rfl g o q ((hs.drop off).take q) rfl FL (fun j hj => ?_) d 1 (vTop vs k) rfl hy (by omega) ?_
        · rw [FG j hj, HO.out (by omega)]
          exact D3.out.cell (off + j) (by omega)
        intro v' w6 NV hgr
        (try simp only [List.getElem_toArray, List.getElem_cons_zero, List.getElem_cons_succ, Act.put, List.setIfInBounds_toArray, List.set_cons_zero, List.set_cons_succ])
        have D2a := D2.beside hgr (fun e => by cases e)
        have D0a := hHeld.1.beside hgr (fun e => by cases e)
        refine hK.out _ _ ⟨D0a, ⟨_, D2a⟩⟩ (fun hHeld => ?_)
        clear hK K
        replace D1 := D1.beside hgr (fun e => by cases e)
        replace D3 := Lib.hid (D3.out.grownP hgr (fun z hz => by cases hz))
        replace D4 : Hid (Kept w w6) := Lib.hid (D4.out.grown hgr D4.out.size (fun z hz => by cases hz))
        have FL2 : ((hs.drop off).take q ++ [vTop vs k]).length = q + 1 := by rw [List.length_append, FL]; rfl
        have FS := madR_step vs hs k (q + 1) hlt ((hs.drop off).take q ++ [vTop vs k]) FL2 (by omega) (fun j hj => by
          rw [AT.out j (by omega)]
          by_cases h1 : j < q
          · rw [if_pos h1, List.getD_eq_getElem?_getD, List.getElem?_append_left (by omega), ← List.getD_eq_getElem?_getD, FG j h1]
          · have h2 : j = q := by omega
            rw [if_neg h1, List.getD_eq_getElem?_getD, List.getElem?_append_right (by omega), FL, h2, Nat.sub_self]
            rw [if_pos rfl]; rfl) (fun j h1 h2 => by
          rw [AT.out j h2, if_neg (by omega), if_neg (by omega)])
        refine wpAnyH_ready (rs := [11]) (by kernel_rfl) (by simp) ?_
        refine AllReadyH.cons (o := _) rfl (fun K hK => ?_) AllReadyH.nil
        (simp only [List.getElem_toArray, List.getElem_cons_zero, List.getElem_cons_succ, Region.wanted, if_true])
        refine wp_copy_part _ _ rfl (w.heap.size + 1 + 1) (k * 4) 24 (madR vs hs k) rfl D2a hli WE.heap.size (q + 1) v' _ rfl NV (by omega) (by omega) ?_
        intro z
        (try simp only [List.getElem_toArray, List.getElem_cons_zero, List.getElem_cons_succ, Act.put, List.setIfInBounds_toArray, List.set_cons_zero, List.set_cons_succ])
        have M2 := D2a.putPart (k * 4) ((hs.drop off).take q ++ [vTop vs k]) (by omega)
        rw [FS] at M2
        have M0 := D0a.putOther (b' := w.heap.size + 1 + 1) (k * 4) (ints ((hs.drop off).take q ++ [vTop vs k])) (by omega)
        have M1 := D1.putOther (b' := w.heap.size + 1 + 1) (k * 4) (ints ((hs.drop off).take q ++ [vTop vs k])) (by omega)
        have M3 := Lib.hid (D3.out.asideV (w.heap.size + 1 + 1) (k * 4) (ints ((hs.drop off).take q ++ [vTop vs k])) (fun x hx => by have hx := Option.some.inj (show some g = some x from hx); omega))
        have M4 := Lib.hid (D4.out.puts (b := w.heap.size + 1 + 1) (by omega) (k * 4) (ints ((hs.drop off).take q ++ [vTop vs k])))
        refine hK.out _ _ ⟨M0, ⟨_, M2⟩⟩ (fun hHeld => ?_)
        clear hK K
        refine wpAnyH_done (by kernel_rfl) ?_ _
        clear hHeld D1 D2 D2a D0a D3 D4 NV hgr hy FS FG FL FL2
        have M2 := Lib.hid M2
        have M0 := Lib.hid M0
        have M1 := Lib.hid M1
        generalize w6.setCells (w.heap.size + 1 + 1) (k * 4) (ints ((hs.drop off).take q ++ [vTop vs k])) = W7 at *
        go_wp2_with (refine slice_lo rfl 98 _ _ rfl (.slice (some ⟨g, o, none⟩) (n - off) cp) (.int .i64 _) _ ?_ ?_ (K2.out _) ?_; (· rfl); (· rfl))
        go_roundg (6 - (k + 1))
        case rel => exact ⟨k + 1, movO o cp q, cp - q, rfl, by omega, by go_num, by rw [EO.out, show n - (off + q) = n - off - q by omega]; try rfl, by rw [EO.out]; omega, Lib.hid (fun hx => by rw [EO.out] at hx ⊢; rw [HO.out (by omega)]; unfold movO; split <;> omega), M0.out, M1.out, M2.out, M3, M4⟩
        case measure => omega
    · obtain rfl : k = 6 := by omega
      have hl := madR_len vs hs 6
      have S1 := Lib.hid (GZ.putAll (madR vs hs 6) hl)
      have S2 := Lib.hid (GB.out.puts (b := w.heap.size + 1) (by omega) 0 (ints (madR vs hs 6)))
      go_wp2_with (first | (refine load_has rfl 42 _ rfl _ rfl ?_ 24 ?_ _ Try.underlying42 rfl ?_ ?_; rotate_left; (· (repeat (first | (with_reducible assumption) | ((with_reducible refine Has.box _ _ ?_ ?_) <;> (first | assumption | decide)) | (with_reducible refine Has.alloc ?_ _) | ((with_reducible refine Has.putOther ?_ _ _ ?_); rotate_left; omega; skip) | ((with_reducible refine Has.below ?_ ?_); rotate_left; assumption)))); (· kernel_rfl)) | (refine store_at rfl 42 _ _ rfl _ _ rfl rfl ?_ 24 ?_ ?_ ?_ ?_; rotate_left; (· (repeat (first | (with_reducible assumption) | ((with_reducible refine Has.box _ _ ?_ ?_) <;> (first | assumption | decide)) | (with_reducible refine Has.alloc ?_ _) | ((with_reducible refine Has.putOther ?_ _ _ ?_); rotate_left; omega; skip) | ((with_reducible refine Has.below ?_ ?_); rotate_left; assumption)))); (· (first | assumption | rfl)); (· kernel_rfl)))
      exact bodyPost_ret (res_has rfl _ _ (w.heap.size + 1) (madR vs hs 6) 24 _ rfl S1.out Try.underlying42 rfl (by kernel_rfl)) rfl ⟨rfl, S2.out⟩
end Go.Proofs.Ytemiljokdedidac.base
end

section
namespace Go.Proofs.Ytemiljokdedidac.base
open Go.ChangeShapes Go.WideShapes Go.ChangeAt Go.RowKit
set_option linter.unusedVariables false
set_option linter.unusedSimpArgs false

/-- The rack while a tube is filled. -/
def madG (vs hs : List Int) (i k j : Nat) : Int := if j / 4 < i then madAt vs hs (j / 4) (j % 4) else if j / 4 = i ∧ j % 4 < k then madAt vs hs i (j % 4) else 0
def madK (vs hs : List Int) (i k : Nat) : List Int := (List.range 24).map (madG vs hs i k)
theorem madK_len (vs hs : List Int) (i k : Nat) : (madK vs hs i k).length = 24 := by unfold madK; rw [List.length_map, List.length_range]
theorem madK_zero (vs hs : List Int) (i : Nat) : madK vs hs i 0 = madR vs hs i := by
  unfold madK madR
  apply List.map_congr_left
  intro j hj
  unfold madF madG
  by_cases h : j / 4 < i
  · rw [if_pos h, if_pos h]
  · rw [if_neg h, if_neg h, if_neg (by omega)]
theorem madK_set (vs hs : List Int) (i k : Nat) (hk : k < 4) : (madK vs hs i k).set (i * 4 + k) (madAt vs hs i k) = madK vs hs i (k + 1) := by
  unfold madK
  have e : madAt vs hs i k = madG vs hs i (k + 1) (i * 4 + k) := by
    unfold madG
    rw [if_neg (by omega), if_pos (by omega), show (i * 4 + k) % 4 = k by omega]
  rw [e]
  refine range_set 24 _ _ (i * 4 + k) fun j hj => ?_
  unfold madG
  by_cases h : j / 4 < i
  · rw [if_pos h, if_pos h]
  · rw [if_neg h, if_neg h]
    by_cases h2 : j / 4 = i ∧ j % 4 < k
    · rw [if_pos h2, if_pos (by omega)]
    · rw [if_neg h2, if_neg (by omega)]
theorem madK_end (vs hs : List Int) (i m : Nat) (hm : vMany vs i = (m : Int)) : madK vs hs i m = madR vs hs (i + 1) := by
  unfold madK madR
  apply List.map_congr_left
  intro j hj
  unfold madF madG
  by_cases h : j / 4 < i
  · rw [if_pos h, if_pos (by omega)]
  · rw [if_neg h]
    by_cases h2 : j / 4 = i
    · rw [if_pos (show j / 4 < i + 1 by omega), h2]
      by_cases h3 : j % 4 < m
      · rw [if_pos ⟨rfl, h3⟩]
      · rw [if_neg (by omega)]
        unfold madAt
        rw [hm, if_neg (by omega), if_neg (by omega)]
    · rw [if_neg (by omega), if_neg (by omega)]

theorem Has.mCellX {w : World} {b : Nat} {vs : List Int} {x : Int} (h : Has w b vs 18) (k : Nat) (hk : k < 6) (e : vMany vs k = x) : w.cell? ⟨b, 6 + k, none⟩ = some (.int .i64 x) := by
  have := h.vCell 1 k (by omega) hk
  have e2 : (prt vs 1).getD k 0 = x := e
  rw [e2] at this
  simp only [Nat.one_mul] at this
  exact this
theorem backV (s : List Int) (c : Nat) (h : c < s.length) : (less1 s c).set c (s.getD c 0 - 1 + 1) = s := by
  unfold less1
  rw [List.set_set, show s.getD c 0 - 1 + 1 = s.getD c 0 by omega]
  apply List.ext_getElem?
  intro j
  rw [List.getElem?_set]
  split
  · rename_i e; subst e
    rw [List.getD_eq_getElem?_getD, List.getElem?_eq_getElem h]; rfl
  · rfl

end Go.Proofs.Ytemiljokdedidac.base
end
