/-
  Replays, walked: copies, parts of the pours in new memory, and pours taken out.
-/
/-
  Pours taken out of a row of the call's own, walked.
-/
/-
  Replays on the model's side, walked: the first pours of a replay in new memory.
-/
import Derived.Test.YtalngdccjoafhabDoPZ
import Derived.Test.YtalngdccjoafhabBlkWZ
import Derived.Test.YtalngdccjoafhabRwZ
import Derived.Test.YtalngdccjoafhabPairs
import Derived.Deep.Cut
import Derived.Deep.RegionHeld3
import Derived.Deep.CutRange
import Derived.Deep.RegionLaw
import Derived.Maps.AppendAt
import Derived.Laws.IdiomCopy
import Derived.Lib.SliceRun
import Derived.Shelf.RegionOpenPlain

section
namespace Go.Proofs.Ytalngdccjoafhab.base
open Go.ChangeShapes Go.WideShapes Go.ChangeAt Go.RowKit
set_option linter.unusedVariables false
set_option linter.unusedSimpArgs false

theorem infoPairY : (Try.prog.info? 51).map (fun i => (i.zero, i.size, i.bytes)) = some (some (.agg #[.int .i64 0, .int .i64 0]), 2, 16) := by kernel_rfl
theorem infoY {P : Program} {t : TypeId} {z : Value} {m bytes : Nat} (h : (P.info? t).map (fun i => (i.zero, i.size, i.bytes)) = some (some z, m, bytes)) : ∃ i, P.info? t = some i ∧ i.zero = some z ∧ i.size = m ∧ i.bytes = bytes := by
  cases h0 : P.info? t with
  | none => rw [h0] at h; cases h
  | some i =>
    rw [h0] at h
    simp only [Option.map_some, Option.some.injEq, Prod.mk.injEq] at h
    exact ⟨i, rfl, h.1, h.2.1, h.2.2⟩
/-- What a row of pairs holds, read from its slice on. -/
def From (w : World) (sa : Option Addr) (F : List Int) : Prop := 0 < F.length → ∃ ad, sa = some ad ∧ ∀ j v, (ints F)[j]? = some v → w.cell? (ad.add j) = some v
theorem add_lit (g o j : Nat) : (⟨g, o, none⟩ : Addr).add j = ⟨g, o + j, none⟩ := by unfold Addr.add; split <;> simp_all
theorem Rw.from {w : World} {b n cap : Nat} {a : Option Addr} {fs : List Int} (h : Rw w b (.slice a n cap) n fs) (m : Nat) (hm : m ≤ n) : From w a (fs.take (m * 2)) := fun h0 => by
  have hl := h.flat
  have hn : 0 < n := by rw [List.length_take] at h0; omega
  obtain ⟨g, c, he, _, _⟩ := h.form hn
  injection he with e1 _ e3
  subst e1
  refine ⟨_, rfl, fun j v hj => ?_⟩
  have hj2 : j < (fs.take (m * 2)).length := by have := (List.getElem?_eq_some_iff.1 hj).1; rwa [ints_len] at this
  rw [ints_get _ _ hj2] at hj
  rw [add_lit, Nat.zero_add, h.cell j (by rw [List.length_take] at hj2; omega), ← hj, getD_take _ _ _ (by rw [List.length_take] at hj2; omega)]
theorem Rw.fromAll {w : World} {b n cap : Nat} {a : Option Addr} {fs : List Int} (h : Rw w b (.slice a n cap) n fs) : From w a fs := by
  have := h.from n (Nat.le_refl _)
  rwa [List.take_of_length_le (by rw [h.flat]; omega)] at this

theorem copyP {P : Program} (w : World) (dT sT ty elem : TypeId) (hu : P.underlying dT = some (.slice elem)) (hs : (P.info? elem).map (·.size) = some 2) (base g m sCap : Nat) (t : TypeId) (sa : Option Addr) (fs : List Value) (F : List Int) (hF : F.length = m * 2)
    (hown : w.ownsRow base t 2 (.slice (some ⟨g, 0, none⟩) m m) m fs) (hsrc : From w sa F) :
    ∃ w', (Builtin.copy_ #[dT, sT] ty #[.slice (some ⟨g, 0, none⟩) m m, .slice sa m sCap]).run P w = .ok (goInt m) w' ∧ w'.ownsRow base t 2 (.slice (some ⟨g, 0, none⟩) m m) m (ints F) ∧ w.grownBy w' (some g) := by
  have hsz : ∃ i, P.info? elem = some i ∧ i.size = 2 := by
    cases hq : P.info? elem with
    | none => simp [hq] at hs
    | some i => exact ⟨i, rfl, by simpa [hq] using hs⟩
  obtain ⟨i, hq, hi⟩ := hsz
  by_cases hm : m = 0
  · subst hm
    have hF0 : F = [] := List.eq_nil_of_length_eq_zero (by omega)
    subst hF0
    have hfs : fs = [] := List.eq_nil_of_length_eq_zero (by simpa using hown.1)
    subst hfs
    refine ⟨w, ?_, hown, ⟨rfl, rfl, rfl, Nat.le_refl _, fun _ _ _ => rfl⟩⟩
    cases sa with
    | none => simp [Builtin.copy_, run_underlying hu, Builtin.lenOf, Builtin.firstCells, sizeOf, typeInfo, hq, hi, storeCells]
    | some a => simp [Builtin.copy_, run_underlying hu, Builtin.lenOf, Builtin.firstCells, sizeOf, typeInfo, hq, hi, loadCells, loadCellsFrom, storeCells]
  · obtain ⟨a, rfl, hsr⟩ := hsrc (by omega)
    rcases hown.2 with ⟨h0, _⟩ | ⟨g', cap, cur, hv, hb, hg, hc1, hc2, hs2, ht⟩
    · cases h0
    · injection hv with e1 _ e3
      have e1 := Option.some.inj e1
      injection e1 with e1
      subst e1
      subst e3
      have hcs : (ints F).length = m * 2 := by rw [ints_len, hF]
      have hl := run_loadCells_list (P := P) w a (ints F) hsr
      have hst := run_storeCells_at P g 0 t (ints F) 0 cur w hg (by omega) (ints_one _)
      have e : cur.toList.take (0 + 0) ++ ints F ++ cur.toList.drop (0 + 0 + (ints F).length) = ints F := by
        rw [List.drop_of_length_le (by rw [hcs, Array.length_toList]; omega)]; simp
      rw [e] at hst
      refine ⟨w.setRow g (ints F).toArray, ?_, ?_, ?_⟩
      · rw [hcs] at hl
        simp [Builtin.copy_, run_underlying hu, Builtin.lenOf, Builtin.firstCells, sizeOf, typeInfo, hq, hi, hl, hst]
      · exact ⟨hcs, .inr ⟨g, m, (ints F).toArray, rfl, hb, setRow_heap w g cur _ t _ hg, Nat.le_refl _, hc2, by simpa using hcs, List.take_of_length_le (by simp [hcs])⟩⟩
      · exact ⟨rfl, rfl, rfl, by simp, fun k hk hne => setRow_other w g k _ (fun e => hne (by rw [e]))⟩
section
variable {P : Program} {ops : Array Oper} {rest : List Oper} {op : Oper} {a : Act} {w : World} {Q : Exit → Act → World → Prop}
theorem build_rp (hw : Region.wanted op (yielded ops a.tmps) = true) (T : TypeId) (x y : Operand) (ho : op.op = .build T #[(0, x), (1, y)]) (u u2 v : Value) (hx : a.eval x = u) (hy : a.eval y = u2)
    (hq : ∀ w, (Instr.build T #[(0, u), (1, u2)]).run P w = .ok v w)
    (h : wpList P ops Q rest (a.put op.dst v) w) : wpList P ops Q (op :: rest) a w :=
  wpList_wanted hw fun _ hK => by
    unfold Oper.wp execOp
    simp only [ho, hx, hy, Sem.run_bind, List.map_toArray, List.map_cons, List.map_nil, hq, Result.andThen_ok, Sem.run_pure]
    exact hK _ _ h
end
set_option maxRecDepth 100000 in
theorem buildRp (ns : List Int) (a : Option Addr) (n cap : Nat) (h : ns.length = 24) (w : World) : (Instr.build 32 #[(0, .agg (ints ns).toArray), (1, .slice a n cap)]).run Try.prog w = .ok (rpV ns (.slice a n cap)) w := by
  unfold rpV rpC
  match ns, h with
  | [a0, a1, a2, a3, a4, a5, a6, a7, a8, a9, a10, a11, a12, a13, a14, a15, a16, a17, a18, a19, a20, a21, a22, a23], _ => exact run_build w _ _ _ (by kernel_rfl)
theorem buildRpZ (w : World) : (Instr.build 32 #[]).run Try.prog w = .ok (rpV z24 (.slice none 0 0)) w := by kernel_rfl
theorem exec_buildY {P : Program} {ev : Operand → Value} {op : Oper} {w : World} {T : TypeId} {x y : Operand} {u v r : Value} (ho : op.op = .build T #[(0, x), (1, y)]) (hx : ev x = u) (hy : ev y = v) (hq : (Instr.build T #[(0, u), (1, v)]).run P w = .ok r w) : Sem.run P (execOp ev op) w = .ok (.value r) w := by
  unfold execOp
  simp only [ho, hx, hy, Sem.run_bind, List.map_toArray, List.map_cons, List.map_nil, hq, Result.andThen_ok, Sem.run_pure]
theorem grownPutsY (w : World) (c o : Nat) (vs : List Value) : w.grownBy (w.setCells c o vs) (some c) :=
  have h := below_setCells (B := 0) c (Nat.zero_le _) vs o w w (Below.refl _ _)
  ⟨h.os, h.tape, h.output, Nat.le_of_eq (size_setCells c vs o w).symm, fun i hi hn => World.heap_setCells_other w c o vs hi (fun e => hn (by rw [e]))⟩
theorem Prs.putsY {w : World} {b : Nat} {v : Value} {n : Nat} {fs : List Int} (h : Prs w b v n fs) (c o : Nat) (vs : List Value) (hne : ∀ k, v.ownBlock = some k → k ≠ c) : Prs (w.setCells c o vs) b v n fs :=
  h.apart (grownPutsY w c o vs) (fun k hk e => by injection hk with hk; subst hk; exact hne _ e rfl)
theorem prs_from {w : World} {b n : Nat} {v : Value} {fs : List Int} (h : Prs w b v n fs) : Rw w b v n fs := h.rw

set_option maxHeartbeats 1600000 in
set_option maxRecDepth 100000 in
/-- A copy with pours of its own. -/
theorem copied_any (ns fs : List Int) (v : Value) (n b : Nat) (w : World) (h24 : ns.length = 24) (hn : n ≤ 1048576) (h : Rw w b v n fs) :
    Calls Try.prog 44 #[rpV ns v] w fun e w' => ∃ g : Nat, e = .returned (rpV ns (.slice (some ⟨g, 0, none⟩) n n)) ∧ Prs w' w.heap.size (.slice (some ⟨g, 0, none⟩) n n) n fs ∧ Kept w w' := by
  obtain ⟨i0, hi, hz0, hz1, hz2⟩ := infoY infoPairY
  obtain ⟨a, cap, rfl⟩ := h.shape
  have RY := (Ry.box (v := .slice a n cap) w 32 h24).alloc (.cells z25.toArray 32)
  have Z := (Ry.zero (w.alloc (.cells (rpC ns (.slice a n cap)).toArray 32)) 32).at (size1 _ _)
  have HB := Lib.hid (((kept_refl w).alloc (.cells (rpC ns (.slice a n cap)).toArray 32)).alloc (.cells z25.toArray 32))
  have HR := Lib.hid ((h.alloc (.cells (rpC ns (.slice a n cap)).toArray 32)).alloc (.cells z25.toArray 32))
  have FL := Lib.hid h.flat
  have hz : (some z25.toArray : Option (Array Value)) = some z25.toArray := rfl
  have hsz : w.heap.size + 1 < ((w.alloc (.cells (rpC ns (.slice a n cap)).toArray 32)).alloc (.cells z25.toArray 32)).heap.size := by simp
  have c24 := RY.pours
  clear h hz
  unfold rpV
  go_enter Try.func44, Try.ntmps44
  go_upto_region 1 with fail
  have e25 : (#[.int .i64 0, .int .i64 0, .int .i64 0, .int .i64 0, .int .i64 0, .int .i64 0, .int .i64 0, .int .i64 0, .int .i64 0, .int .i64 0, .int .i64 0, .int .i64 0, .int .i64 0, .int .i64 0, .int .i64 0, .int .i64 0, .int .i64 0, .int .i64 0, .int .i64 0, .int .i64 0, .int .i64 0, .int .i64 0, .int .i64 0, .int .i64 0, .slice none 0 0] : Array Value) = z25.toArray := rfl
  try rw [e25]
  clear e25
  generalize ((w.alloc (.cells (rpC ns (.slice a n cap)).toArray 32)).alloc (.cells z25.toArray 32)) = W at *
  go_upto_region 2 with (at_make; refine wpList_make_full W rfl _ _ 26 rfl w.heap.size 51 i0 (.agg #[.int .i64 0, .int .i64 0]) 2 Try.underlying26 hi hz0 hz1 .i64 .i64 _ _ n rfl rfl rfl rfl (by rw [hz2]; omega) (by unfold maxLen; omega) (by omega) ?_; intro w1 hown hgrow)
  rw [made_zero] at hown
  have hws : W.heap.size < w1.heap.size := (World.ownsRow.lt hown W.heap.size rfl).2
  replace RY := RY.grown hgrow (by simp)
  replace Z := Z.grown hgrow (by simp)
  replace HR := Lib.hid (HR.out.grownP hgrow (fun _ k hk => by cases hk))
  replace HB : Hid (Kept w w1) := Lib.hid (HB.out.grown hgrow HB.out.size (fun k hk => by cases hk))
  have FR := Lib.hid HR.out.fromAll
  clear c24 hgrow
  have c24 := RY.pours
  obtain ⟨w2, hrun, hown2, hgrow2⟩ := copyP (P := Try.prog) w1 26 26 3 51 Try.underlying26 (by kernel_rfl) w.heap.size W.heap.size n cap 51 a _ fs FL.out hown FR.out
  go_upto_region 3 with fail
  have hne1 : w.heap.size ≠ W.heap.size := by omega
  have hne2 : w.heap.size + 1 ≠ W.heap.size := by omega
  replace RY := RY.grown hgrow2 (fun e => hne1 (Option.some.inj e))
  replace Z := Z.grown hgrow2 (fun e => hne2 (Option.some.inj e))
  replace HB : Hid (Kept w w2) := Lib.hid (HB.out.grown hgrow2 HB.out.size (fun k hk => by have := Option.some.inj hk; omega))
  have P1 : Hid (Prs w2 w.heap.size (.slice (some ⟨W.heap.size, 0, none⟩) n n) n fs) := Lib.hid hown2
  have S1 := Lib.hid (Z.putAll ns (.slice (some ⟨W.heap.size, 0, none⟩) n n) h24)
  have S2 := Lib.hid (HB.out.puts (b := w.heap.size + 1) (by omega) 0 (rpC ns (.slice (some ⟨W.heap.size, 0, none⟩) n n)))
  have S3 := Lib.hid (Prs.putsY P1.out (w.heap.size + 1) 0 (rpC ns (.slice (some ⟨W.heap.size, 0, none⟩) n n)) (fun k hk => by have := Option.some.inj (show some W.heap.size = some k from hk); omega))
  clear hown hgrow2 hown2 FR HR c24 HB P1 hrun
  have c24 := RY.pours
  go_wp2_with (first | (refine load_start rfl 30 _ rfl w.heap.size rfl ns _ _ RY _ Try.underlying30 rfl ?_ ?_; (· kernel_rfl)) | (refine guardY (isBdY 32) ?_ ?_; (· rfl); refine build_rp rfl 32 _ _ rfl _ _ _ rfl rfl (buildRp ns _ n n h24) ?_) | (refine guardY (isStY 32) ?_ ?_; (· rfl); refine store_ry rfl 32 _ _ rfl (w.heap.size + 1) rfl ns (.slice (some ⟨W.heap.size, 0, none⟩) n n) rfl _ _ _ Z h24 rfl ?_ ?_; (· kernel_rfl)))
  exact bodyPost_ret (res_ry rfl _ _ (w.heap.size + 1) ns _ _ _ rfl S1.out Try.underlying32 rfl (by kernel_rfl)) rfl ⟨W.heap.size, rfl, S3.out, S2.out⟩
end Go.Proofs.Ytalngdccjoafhab.base
end

section
namespace Go.Proofs.Ytalngdccjoafhab.base
open Go.ChangeShapes Go.WideShapes Go.ChangeAt Go.RowKit
set_option linter.unusedVariables false
set_option linter.unusedSimpArgs false

/-! pours taken out of a row of the call's own -/
theorem run_hiP {P : Program} (w : World) (T : TypeId) (a : Option Addr) (len cap k : Nat) (hT : P.underlying T = some (.slice (P.elem T))) (hz : (sizeOf (P.elem T)).run P w = .ok 2 w) (hk : k ≤ cap) :
    (Instr.sliceAt T (.slice a len cap) none (some (.int .i64 (k : Int))) none).run P w = .ok (.slice a k cap) w := by
  rw [run_sliceAt_slice w T _ _ _ _ hT, run_slice_h w T a len cap hT .i64 (k : Int) (by omega) (by omega), hz]
  simp only [Result.andThen_ok, sliced, Int.toNat_natCast, Nat.sub_zero, Nat.zero_mul]
  have e : (if cap = 0 then a else a.map fun x => x.add 0) = a := by
    split
    · rfl
    · cases a with
      | none => rfl
      | some x => simp [Addr.add]
  rw [e]
theorem elemPY : Try.prog.underlying 26 = some (.slice (Try.prog.elem 26)) := by kernel_rfl
theorem sizePY (w : World) : (sizeOf (Try.prog.elem 26)).run Try.prog w = .ok 2 w := by kernel_rfl
theorem exec_hiY {P : Program} {ev : Operand → Value} {op : Oper} {w : World} {T : TypeId} {x y : Operand} {u v r : Value} (ho : op.op = .slice T x none (some y) none) (hx : ev x = u) (hy : ev y = v) (hq : (Instr.sliceAt T u none (some v) none).run P w = .ok r w) : Sem.run P (execOp ev op) w = .ok (.value r) w := by
  unfold execOp
  simp only [ho, hx, hy, Option.map_some, Option.map_none, Sem.run_bind, hq, Result.andThen_ok, Sem.run_pure]
theorem clearP (w : World) (ty : TypeId) (b o n c : Nat) (hc : ∀ j, j < n * 2 → (w.cell? ⟨b, o + j, none⟩).isSome = true) (hf : ∀ j, j < n * 2 → w.frozen? ⟨b, o + j, none⟩ = false) :
    (Builtin.clear_ #[26] ty #[.slice (some ⟨b, o, none⟩) n c]).run Try.prog w = .ok (.tuple #[]) (w.setCells b o (ints (List.replicate (n * 2) 0))) := by
  obtain ⟨i0, hi, hz0, hz1, hz2⟩ := infoY infoPairY
  cases n with
  | zero =>
    simp [Builtin.clear_, run_underlying Try.underlying26, ints, World.setCells]
  | succ m =>
    have hzc : (Builtin.zeroCells (Value.agg #[.int .i64 0, .int .i64 0]).cells (m + 1)).toList = ints (List.replicate ((m + 1) * 2) 0) := by
      have e2 : (Value.agg #[.int .i64 0, .int .i64 0]).cells = #[Value.int .i64 0, Value.int .i64 0] := rfl
      rw [e2]
      have h : ∀ j : Nat, (#[Value.int .i64 0, Value.int .i64 0] : Array Value)[j % 2]! = .int .i64 0 := fun j => by
        have : j % 2 = 0 ∨ j % 2 = 1 := by omega
        rcases this with h | h <;> rw [h] <;> rfl
      apply List.ext_getElem?
      intro j
      unfold Builtin.zeroCells ints
      by_cases hj : j < (m + 1) * 2
      · simp [hj, h]
      · simp [hj]
    have hst := run_storeCells_cells (P := Try.prog) b o (ints (List.replicate ((m + 1) * 2) 0)) 0 w (by intro j hj; rw [ints_len, List.length_replicate] at hj; simpa using hc j hj) (by intro j hj; rw [ints_len, List.length_replicate] at hj; simpa using hf j hj) (ints_one _)
    simp only [Nat.add_zero] at hst
    have hv : ∀ w, (zeroValue 51).run Try.prog w = .ok (.agg #[.int .i64 0, .int .i64 0]) w := fun w => by kernel_rfl
    simp [Builtin.clear_, run_underlying Try.underlying26, hv, hzc, hst]
theorem Rw.holdsY {w : World} {b n g cap : Nat} {fs : List Int} (h : Rw w b (.slice (some ⟨g, 0, none⟩) n cap) n fs) (h0 : 0 < n) : Holds w g (ints fs) := by
  have hl := h.flat
  refine ⟨fun j v hv => ?_, fun j hj => ?_⟩
  · have hj : j < fs.length := by have := (List.getElem?_eq_some_iff.1 hv).1; rwa [ints_len] at this
    rw [Nat.zero_add, h.cell j (by omega), ← hv, ints_get _ _ hj]
  · rw [ints_len] at hj
    rw [Nat.zero_add, h.cell j (by omega)]
    exact ⟨rfl, h.freeAt h0 j (by omega)⟩
theorem Rw.ofHolds {w : World} {b n g cap : Nat} {fs gs : List Int} (h : Holds w g (ints fs)) (hb : b ≤ g) (hg : g < w.heap.size) (hn : n ≤ cap) (hl : gs.length = n * 2) (hf : n * 2 ≤ fs.length) (he : ∀ j, j < n * 2 → fs.getD j 0 = gs.getD j 0) : Rw w b (.slice (some ⟨g, 0, none⟩) n cap) n gs := by
  refine ⟨hl, .inr ⟨g, cap, rfl, hb, hg, hn, fun j hj => ?_, fun j hj => ?_⟩⟩
  · have := h.int j (by omega)
    rw [this, he j hj]
  · exact h.free j (by rw [ints_len]; omega)
/-- Some pours are taken out. -/
def outF (fs : List Int) (i j : Nat) : List Int := fs.take (i * 2) ++ fs.drop (j * 2)
theorem outF_len {fs : List Int} {n i j : Nat} (hl : fs.length = n * 2) (hij : i ≤ j) (hj : j ≤ n) : (outF fs i j).length = (n - (j - i)) * 2 := by
  unfold outF; rw [List.length_append, List.length_take, List.length_drop]; omega
theorem outF_none {fs : List Int} (i : Nat) : outF fs i i = fs := by unfold outF; exact List.take_append_drop _ _
theorem getD_left3 (l r s : List Int) (j : Nat) (h : j < (l ++ r).length) : (l ++ r ++ s).getD j 0 = (l ++ r).getD j 0 := getD_left (l ++ r) s j h

end Go.Proofs.Ytalngdccjoafhab.base
end

section
namespace Go.Proofs.Ytalngdccjoafhab.base
open Go.ChangeShapes Go.WideShapes Go.ChangeAt Go.RowKit
set_option linter.unusedVariables false
set_option linter.unusedSimpArgs false

theorem Prs.monoK {w : World} {b b' n : Nat} {v : Value} {fs : List Int} (h : Prs w b v n fs) (hb : b' ≤ b) : Prs w b' v n fs := by
  refine ⟨h.1, ?_⟩
  rcases h.2 with h0 | ⟨g, cap, cur, hv, hg, rest⟩
  · exact .inl h0
  · exact .inr ⟨g, cap, cur, hv, by omega, rest⟩
theorem cells25C : (#[.int .i64 0, .int .i64 0, .int .i64 0, .int .i64 0, .int .i64 0, .int .i64 0, .int .i64 0, .int .i64 0, .int .i64 0, .int .i64 0, .int .i64 0, .int .i64 0, .int .i64 0, .int .i64 0, .int .i64 0, .int .i64 0, .int .i64 0, .int .i64 0, .int .i64 0, .int .i64 0, .int .i64 0, .int .i64 0, .int .i64 0, .int .i64 0, .slice none 0 0] : Array Value) = z25.toArray := rfl
theorem prs_some {w : World} {b n z : Nat} {v : Value} {fs : List Int} (h : Prs w b v n fs) (hz : v.ownBlock = some z) : ∃ cap, v = .slice (some ⟨z, 0, none⟩) n cap := by
  rcases h.2 with ⟨rfl, _⟩ | ⟨g, cap, cur, rfl, _⟩
  · cases hz
  · have := Option.some.inj (show some g = some z from hz)
    subst this
    exact ⟨cap, rfl⟩
/-- Some pairs more, wherever they lie. -/
theorem run_append_prs (w : World) (ty : TypeId) (base : Nat) (v : Value) (n : Nat) (fs : List Int) (G : Prs w base v n fs) (sa : Option Addr) (k c : Nat) (ys : List Int) (hk : ys.length = k * 2) (hf : From w sa ys) (hbase : base ≤ w.heap.size) (hn : n + k ≤ 2000000) :
    ∃ v' w', (Builtin.append_ #[26, 26] ty #[v, .slice sa k c]).run Try.prog w = .ok v' w' ∧ Prs w' base v' (n + k) (fs ++ ys) ∧ w.grownBy w' v.ownBlock ∧ (v'.ownBlock = v.ownBlock ∨ v'.ownBlock = some w.heap.size) := by
  obtain ⟨i0, hi, hz0, hz1, hz2⟩ := infoY infoPairY
  by_cases h0 : k = 0
  · subst h0
    have hy : ys = [] := List.eq_nil_of_length_eq_zero (by omega)
    subst hy
    rw [List.append_nil]
    refine ⟨v, w, ?_, G, ⟨rfl, rfl, rfl, Nat.le_refl _, fun _ _ _ => rfl⟩, .inl rfl⟩
    rcases G.2 with ⟨rfl, rfl⟩ | ⟨g, cap, cur, rfl, _, _, hc, _⟩
    · cases sa with
      | none => simp [Builtin.append_, run_underlying Try.underlying26, sizeOf, typeInfo, hi, Builtin.lenOf, Builtin.firstCells]
      | some a => simp [Builtin.append_, run_underlying Try.underlying26, sizeOf, typeInfo, hi, Builtin.lenOf, Builtin.firstCells, loadCells, loadCellsFrom]
    · cases sa with
      | none => simp [Builtin.append_, run_underlying Try.underlying26, sizeOf, typeInfo, hi, Builtin.lenOf, Builtin.firstCells, hc, storeCells]
      | some a => simp [Builtin.append_, run_underlying Try.underlying26, sizeOf, typeInfo, hi, Builtin.lenOf, Builtin.firstCells, loadCells, loadCellsFrom, hc, storeCells]
  · obtain ⟨ad, rfl, hc⟩ := hf (by omega)
    obtain ⟨v', w', h1, h2, h3, _, h5⟩ := run_append_own_at (P := Try.prog) w base 26 ty 51 i0 (.agg #[.int .i64 0, .int .i64 0]) 2 16 Try.underlying26 hi hz0 hz1 hz2 rfl (by omega) v n (ints fs) G ad k c (ints ys) (by rw [ints_len]; exact hk) hc (ints_one _) (by unfold maxLen; omega) (by omega) hbase
    refine ⟨v', w', h1, ?_, h3, h5⟩
    unfold Prs
    rw [ints_app]; exact h2
theorem wp_append_prs {o : Oper} {a : Act} {w : World} {K : Act → World → Prop} {Q : Exit → Act → World → Prop} (s x : Operand) (ho : o.op = .call { callee := .builtin .append, args := #[s, x], argTypes := #[26, 26] })
    (base : Nat) (v : Value) (n : Nat) (fs : List Int) (hs : a.eval s = v) (G : Prs w base v n fs) (sa : Option Addr) (k c : Nat) (hx : a.eval x = .slice sa k c) (ys : List Int) (hk : ys.length = k * 2) (hf : From w sa ys) (hbase : base ≤ w.heap.size) (hn : n + k ≤ 2000000)
    (h : ∀ v' w', Prs w' base v' (n + k) (fs ++ ys) → w.grownBy w' v.ownBlock → (v'.ownBlock = v.ownBlock ∨ v'.ownBlock = some w.heap.size) → K (a.put o.dst v') w') : Oper.wp Try.prog o a w K Q := by
  obtain ⟨v', w', hr, h1, h2, h3⟩ := run_append_prs w o.type base v n fs G sa k c ys hk hf hbase hn
  unfold Oper.wp execOp
  simp only [ho, resolve, invoke, builtin, Sem.run_bind, Sem.run_pure, Result.andThen_ok, List.map_toArray, List.map_cons, List.map_nil, hs, hx, hr]
  exact h v' w' h1 h2 h3
theorem wpList_append_prs {ops : Array Oper} {rest : List Oper} {o : Oper} {a : Act} {w : World} {Q : Exit → Act → World → Prop} (hgd : o.guard = none) (s x : Operand) (ho : o.op = .call { callee := .builtin .append, args := #[s, x], argTypes := #[26, 26] })
    (base : Nat) (v : Value) (n : Nat) (fs : List Int) (hs : a.eval s = v) (G : Prs w base v n fs) (sa : Option Addr) (k c : Nat) (hx : a.eval x = .slice sa k c) (ys : List Int) (hk : ys.length = k * 2) (hf : From w sa ys) (hbase : base ≤ w.heap.size) (hn : n + k ≤ 2000000)
    (h : ∀ v' w', Prs w' base v' (n + k) (fs ++ ys) → w.grownBy w' v.ownBlock → (v'.ownBlock = v.ownBlock ∨ v'.ownBlock = some w.heap.size) → wpList Try.prog ops Q rest (a.put o.dst v') w') : wpList Try.prog ops Q (o :: rest) a w :=
  wpList_plain hgd fun _ hK => wp_append_prs s x ho base v n fs hs G sa k c hx ys hk hf hbase hn (fun v' w' h1 h2 h3 => hK _ _ (h v' w' h1 h2 h3))
theorem from_new (w : World) (x y : Int) (T : TypeId) : From (w.alloc (.cells (ints [x, y]).toArray T)) (some ⟨w.heap.size, 0, none⟩) [x, y] := fun _ => by
  refine ⟨_, rfl, fun j v hv => ?_⟩
  have h := Has.box (ns := [x, y]) (n := 2) w T rfl (by omega)
  have hj : j < 2 := by have := (List.getElem?_eq_some_iff.1 hv).1; simpa [ints] using this
  rw [add_lit, Nat.zero_add, h.cell j hj, ← hv, ints_get _ _ (by simpa using hj)]
theorem From.below {w w' : World} {sa : Option Addr} {F : List Int} (h : From w sa F) (hb : ∀ a, sa = some a → 0 < F.length → a.block < w.heap.size) (k : Below w.heap.size w w') : From w' sa F := fun h0 => by
  obtain ⟨ad, rfl, hc⟩ := h h0
  refine ⟨ad, rfl, fun j v hv => ?_⟩
  have hl := hb ad rfl h0
  have : (ad.add j).block = ad.block := by unfold Addr.add; split <;> rfl
  exact (k.cell (p := ad.add j) (by rw [this]; exact hl)).trans (hc j v hv)
theorem prs_none (w : World) (b : Nat) (hb : b ≤ w.heap.size) : Prs (w.alloc (.cells #[] 51)) b (.slice (some ⟨w.heap.size, 0, none⟩) 0 0) 0 [] := by
  have := World.ownsRow_made (base := b) (e := 51) (size := 2) w #[] 0 hb (by unfold maxLen; omega) (by simp)
  simpa [Prs, ints] using this

set_option maxHeartbeats 1600000 in
set_option maxRecDepth 100000 in
theorem l11CutG_any (ns fs : List Int) (v : Value) (n b k : Nat) (w : World) (h24 : ns.length = 24) (hn : n ≤ 1048576) (h : Rw w b v n fs) (hk : k ≤ n) :
    Calls Try.prog 28 #[rpV ns v, .int .i64 (k : Nat)] w fun e w' => ∃ g gc : Nat, e = .returned (rpV ns (.slice (some ⟨g, 0, none⟩) k gc)) ∧ Prs w' w.heap.size (.slice (some ⟨g, 0, none⟩) k gc) k (fs.take (k * 2)) ∧ Kept w w' := by
  obtain ⟨a, cap, rfl⟩ := h.shape
  have RY := (Ry.box (v := .slice a n cap) w 32 h24).alloc (.cells z25.toArray 32)
  have Z := (Ry.zero (w.alloc (.cells (rpC ns (.slice a n cap)).toArray 32)) 32).at (size1 _ _)
  have HB := Lib.hid (((kept_refl w).alloc (.cells (rpC ns (.slice a n cap)).toArray 32)).alloc (.cells z25.toArray 32))
  have HR := Lib.hid ((h.alloc (.cells (rpC ns (.slice a n cap)).toArray 32)).alloc (.cells z25.toArray 32))
  have FL := Lib.hid h.flat
  have hsz : ((w.alloc (.cells (rpC ns (.slice a n cap)).toArray 32)).alloc (.cells z25.toArray 32)).heap.size = w.heap.size + 2 := by simp
  have hkc : Hid (k ≤ cap) := Lib.hid (by
    by_cases h0 : 0 < n
    · obtain ⟨g, c, he, _, _⟩ := h.form h0
      injection he with e1 _ e3
      subst e1
      have := h.room h0
      omega
    · omega)
  have AP := Lib.hid (fun hn0 z hz => (h.ownlt hn0 z hz).2)
  have hi25 : (Try.prog.info? 32).map (·.size) = some 25 := by kernel_rfl
  have hi1 : (Try.prog.info? 30).map (·.size) = some (ints ns).length := by rw [ints_len, h24]; kernel_rfl
  clear h
  unfold rpV
  go_enter Try.func28, Try.ntmps28
  go_upto_region 1 with fail
  try rw [cells25C]
  generalize ((w.alloc (.cells (rpC ns (.slice a n cap)).toArray 32)).alloc (.cells z25.toArray 32)) = W at *
  refine wp_region_held_drew (S := fun w' => Ry w' w.heap.size ns (.slice a n cap) 32) (by kernel_rfl) RY.drew (fun hHeld => ?_)
  replace Z := Z.drew
  replace HB := Lib.hid (show Kept w W.drew from ⟨HB.out.os, HB.out.tape, HB.out.output, HB.out.size, HB.out.block⟩)
  replace HR := Lib.hid (show Rw W.drew b (.slice a n cap) n fs from HR.out)
  have hsz2 : W.drew.heap.size = w.heap.size + 2 := hsz
  clear RY hsz
  generalize World.drew W = WD at *
  (refine wpAnyH_take (i := 0) (v := ?_) rfl (by kernel_rfl) (by kernel_rfl) (by kernel_rfl) (fun _ _ _ h => h) (Or.inl ⟨by rfl, ?_⟩) hHeld ?_; rotate_left; (· (intro w' hSw; go_simp; try with_reducible rfl)); (try simp only [List.getElem_toArray, List.getElem_cons_zero, List.getElem_cons_succ, Act.put, List.setIfInBounds_toArray, List.set_cons_zero, List.set_cons_succ])); (refine wpAnyH_take (i := 3) (v := ?_) rfl (by kernel_rfl) (by kernel_rfl) (by kernel_rfl) (fun _ _ _ h => h) (Or.inl ⟨by rfl, ?_⟩) hHeld ?_; rotate_left; (· (intro w' hSw; go_simp; try with_reducible rfl)); (try simp only [List.getElem_toArray, List.getElem_cons_zero, List.getElem_cons_succ, Act.put, List.setIfInBounds_toArray, List.set_cons_zero, List.set_cons_succ])); (refine wpAnyH_take (i := 5) (v := ?_) rfl (by kernel_rfl) (by kernel_rfl) (by kernel_rfl) (fun _ _ _ h => h) (Or.inl ⟨by rfl, ?_⟩) hHeld ?_; rotate_left; (· (intro w' hSw; go_simp; try with_reducible rfl)); (try simp only [List.getElem_toArray, List.getElem_cons_zero, List.getElem_cons_succ, Act.put, List.setIfInBounds_toArray, List.set_cons_zero, List.set_cons_succ]))
  (refine wpAnyH_take (i := 1) (v := _) rfl (by kernel_rfl) (by kernel_rfl) (by kernel_rfl) (fun _ _ _ h => h) (yieldsIf_load_mid (by rfl) 30 _ rfl _ _ rfl (ints ns) _ (fun w' hSw => hSw.start) Try.underlying30 rfl (hi1)) hHeld ?_; (try simp only [List.getElem_toArray, List.getElem_cons_zero, List.getElem_cons_succ, Act.put, List.setIfInBounds_toArray, List.set_cons_zero, List.set_cons_succ]))
  (refine wpAnyH_take (i := 4) (v := .slice a n cap) rfl (by kernel_rfl) (by kernel_rfl) (by kernel_rfl) (fun _ _ _ h => h) (Or.inl ⟨by rfl, ?_⟩) hHeld ?_; (· (intro w' hSw; have q := hSw.pours; clear hSw; go_simp; try with_reducible rfl)); (try simp only [List.getElem_toArray, List.getElem_cons_zero, List.getElem_cons_succ, Act.put, List.setIfInBounds_toArray, List.set_cons_zero, List.set_cons_succ]))
  (refine wpAnyH_take (i := 6) (v := .slice a k cap) rfl (by kernel_rfl) (by kernel_rfl) (by kernel_rfl) (fun _ _ _ h => h) (Or.inl ⟨by rfl, ?_⟩) hHeld ?_; (· (intro w' hSw; exact exec_hiY rfl rfl rfl (run_hiP w' 26 a n cap k elemPY (sizePY w') hkc.out))); (try simp only [List.getElem_toArray, List.getElem_cons_zero, List.getElem_cons_succ, Act.put, List.setIfInBounds_toArray, List.set_cons_zero, List.set_cons_succ]))
  (refine wpAnyH_ready (rs := [2]) (by kernel_rfl) (by simp) ?_; refine AllReadyH.cons (o := _) rfl (fun K hK => ?_) AllReadyH.nil; (simp only [List.getElem_toArray, List.getElem_cons_zero, List.getElem_cons_succ, Region.wanted, if_true]))
  go_simp
  refine hK.out _ _ (hHeld.alloc _) (fun hHeld => ?_)
  clear hK K
  have PN := prs_none WD (w.heap.size + 2) (by omega)
  rw [hsz2] at PN
  have FR := (HR.out.alloc (.cells #[] 51)).from k hk
  replace Z := Z.alloc (.cells #[] 51)
  replace HB := Lib.hid (HB.out.alloc (.cells #[] 51))
  (try simp only [List.getElem_toArray, List.getElem_cons_zero, List.getElem_cons_succ, Act.put, List.setIfInBounds_toArray, List.set_cons_zero, List.set_cons_succ])
  (refine wpAnyH_ready (rs := [7]) (by kernel_rfl) (by simp) ?_; refine AllReadyH.cons (o := _) rfl (fun K hK => ?_) AllReadyH.nil; (simp only [List.getElem_toArray, List.getElem_cons_zero, List.getElem_cons_succ, Region.wanted, if_true]))
  refine wp_append_prs _ _ rfl (w.heap.size + 2) _ 0 [] rfl PN a k cap rfl (fs.take (k * 2)) (by rw [List.length_take, FL.out]; omega) FR (by rw [size1]; omega) (by omega) ?_
  intro v' w3 hP hgrow hlie
  rw [Nat.zero_add, List.nil_append] at hP
  have own := Lib.hid (fun z hz => (World.ownsRow.lt hP z hz).1)
  have hgrow' : (WD.alloc (.cells #[] 51)).grownBy w3 (some (w.heap.size + 2)) := hgrow
  have hh3 := hHeld.grown hgrow' (fun e => by have := Option.some.inj e; omega)
  replace Z := Z.grown hgrow' (fun e => by have := Option.some.inj e; omega)
  replace HB : Hid (Kept w w3) := Lib.hid (HB.out.grown hgrow' HB.out.size (fun z hz => by have := Option.some.inj hz; omega))
  refine hK.out _ _ hh3 (fun hHeld => ?_)
  have hsome : ∃ g, v'.ownBlock = some g := by
    rcases hlie with h3 | h3
    · exact ⟨_, h3⟩
    · exact ⟨_, h3⟩
  obtain ⟨gA, hgA⟩ := hsome
  obtain ⟨vc, rfl⟩ := prs_some hP hgA
  obtain ⟨va, hva⟩ : ∃ va : Option Addr, some (⟨gA, 0, none⟩ : Addr) = va := ⟨_, rfl⟩
  rw [hva] at hP own ⊢
  have HVA := Lib.hid hva
  clear hK K hgrow hgrow' hlie hh3 PN FR hgA hva
  (try simp only [List.getElem_toArray, List.getElem_cons_zero, List.getElem_cons_succ, Act.put, List.setIfInBounds_toArray, List.set_cons_zero, List.set_cons_succ])
  (refine wpAnyH_take (i := 8) (v := rpV ns (.slice va k vc)) rfl (by kernel_rfl) (by kernel_rfl) (by kernel_rfl) (fun _ _ _ h => h) (Or.inl ⟨by rfl, ?_⟩) hHeld ?_; (· (intro w' hSw; exact exec_buildY rfl rfl rfl (buildRp ns va k vc h24 w'))); (try simp only [List.getElem_toArray, List.getElem_cons_zero, List.getElem_cons_succ, Act.put, List.setIfInBounds_toArray, List.set_cons_zero, List.set_cons_succ]))
  have l25 : (rpC ns (.slice va k vc)).length = 25 := rpC_len h24 _
  have T25 : w3.there (w.heap.size + 1) 0 25 := by have := Z.1.there; rwa [rpC_len Z.2] at this
  (refine wpAnyH_ready (rs := [9]) (by kernel_rfl) (by simp) ?_; refine AllReadyH.cons (o := _) rfl (fun K hK => ?_) AllReadyH.nil; (simp only [List.getElem_toArray, List.getElem_cons_zero, List.getElem_cons_succ, Region.wanted, if_true]))
  refine wp_store_mid _ _ _ rfl _ _ (rpC ns (.slice va k vc)).toArray rfl rfl (by simpa [l25] using T25) (by simpa [l25] using hi25) (all_oneCell_toArray (rpC_one ns rfl)) ?_
  (try simp only [List.getElem_toArray, List.getElem_cons_zero, List.getElem_cons_succ, Act.put, List.setIfInBounds_toArray, List.set_cons_zero, List.set_cons_succ, List.toList_toArray])
  have S1 := Lib.hid (Z.putAll ns (.slice va k vc) h24)
  have S2 := Lib.hid (HB.out.puts (b := w.heap.size + 1) (by omega) 0 (rpC ns (.slice va k vc)))
  have S3 := Lib.hid (Prs.putsY hP (w.heap.size + 1) 0 (rpC ns (.slice va k vc)) (fun z hz => by have := own.out z hz; omega))
  refine hK.out _ _ (hHeld.putOther 0 _ (by omega)) (fun hHeld => ?_)
  clear hK K
  refine wpAnyH_done (by kernel_rfl) ?_ _
  clear hHeld Z HB hP T25
  go_wp2_with fail
  exact bodyPost_ret (res_ry rfl _ _ (w.heap.size + 1) ns _ _ _ rfl S1.out Try.underlying32 rfl (by kernel_rfl)) rfl ⟨gA, vc, by rw [HVA.out]; rfl, by rw [HVA.out]; exact Prs.monoK S3.out (Nat.le_add_right _ _), S2.out⟩
theorem l11Cut_any (ns fs : List Int) (v : Value) (n b k : Nat) (w : World) (h24 : ns.length = 24) (hn : n ≤ 1048576) (h : Rw w b v n fs) (hk : k ≤ n) :
    Calls Try.prog 28 #[rpV ns v, .int .i64 (k : Nat)] w fun e w' => ∃ u : Value, e = .returned (rpV ns u) ∧ Prs w' w.heap.size u k (fs.take (k * 2)) ∧ Kept w w' :=
  (l11CutG_any ns fs v n b k w h24 hn h hk).mono fun e w' ⟨g, gc, h1, h2, h3⟩ => ⟨_, h1, h2, h3⟩
end Go.Proofs.Ytalngdccjoafhab.base
end
