/-
  Reading the text of a replay: mathematics, and a pour read.
-/
import Derived.Test.YtalngdccjoafhabRyTx
import Derived.Test.YtalngdccjoafhabParseI
namespace Go.Proofs.Ytalngdccjoafhab.base
open Go.ChangeShapes Go.WideShapes Go.ChangeAt Go.RowKit
set_option linter.unusedVariables false
set_option linter.unusedSimpArgs false

theorem slice1Di {P : Program} {ops : Array Oper} {rest : List Oper} {o : Oper} {a : Act} {w : World} {Q : Exit → Act → World → Prop} (hg : o.guard = none) (tt t : TypeId) (x : Operand) (ho : o.op = .buildSlice tt 1 #[(0, x)]) (ht : P.underlying tt = some (.slice t)) (hi : (P.info? t).map (fun i => (i.zero.map fun z => z.cells.size, i.size, i.bytes)) = some (some 2, 2, 16))
    (ns : List Int) (hx : a.eval x = .agg (ints ns).toArray) (hl : ns.length = 2) (h : wpList P ops Q rest (a.put o.dst (.slice (some ⟨w.heap.size, 0, none⟩) 1 1)) (w.alloc (.cells (ints ns).toArray t))) : wpList P ops Q (o :: rest) a w :=
  wpList_slice1 hg tt t x ho 2 16 ht hi (by omega) (by omega) ns hx hl h
theorem run_slice0 {P : Program} (w : World) (t e : TypeId) (ie : TypeInfo) (z : Value) (hu : P.underlying t = some (.slice e)) (hie : P.info? e = some ie) (hz : ie.zero = some z) :
    (Instr.buildSlice t 0 #[]).run P w = .ok (.slice (some ⟨w.heap.size, 0, none⟩) 0 0) (w.alloc (.cells #[] e)) := by
  simp [Instr.buildSlice, run_underlying hu, sizeOf, typeInfo, zeroValue, hie, hz, newRow, Instr.fill]
  have e2 : ∀ f : Nat → Value, Array.map f (Array.range 0) = #[] := fun f => Array.eq_empty_of_size_eq_zero (by simp)
  rw [e2]
theorem slice0Di {P : Program} {ops : Array Oper} {rest : List Oper} {o : Oper} {a : Act} {w : World} {Q : Exit → Act → World → Prop} (hg : o.guard = none) (tt t : TypeId) (ho : o.op = .buildSlice tt 0 #[]) (ht : P.underlying tt = some (.slice t)) (hi : (P.info? t).map (fun i => (i.zero.map fun z => z.cells.size, i.size, i.bytes)) = some (some 2, 2, 16))
    (h : wpList P ops Q rest (a.put o.dst (.slice (some ⟨w.heap.size, 0, none⟩) 0 0)) (w.alloc (.cells #[] t))) : wpList P ops Q (o :: rest) a w :=
  wpList_plain hg fun _ hK => by
    obtain ⟨i, z, h0, h1, h2, h3, h4⟩ := info_of hi
    unfold Oper.wp execOp
    simp only [ho, Sem.run_bind, List.map_toArray, List.map_nil, run_slice0 w tt t i z ht h0 h1, Result.andThen_ok]
    exact hK _ _ h
theorem Has.grownDi {w w' : World} {c : Nat} {ns : List Int} {m : Nat} (H : Has w c ns m) {r : Option Nat} (hg : w.grownBy w' r) (hr : some c ≠ r) : Has w' c ns m := by
  have hb := hg.block c H.lt hr
  refine ⟨⟨fun j v hv => (World.cell?_of_block (a := ⟨c, 0 + j, Option.none⟩) hb).trans (H.holds.range j v hv), fun j hj => ?_⟩, H.len, H.pos⟩
  have := H.holds.there j hj
  rw [World.cell?_of_block (w' := w') (w := w) (a := ⟨c, 0 + j, Option.none⟩) hb, World.frozen?_of_block (w' := w') (w := w) (a := ⟨c, 0 + j, Option.none⟩) hb]
  exact this
theorem Has.afterDi {w : World} {c : Nat} {ns : List Int} {m : Nat} (H : Has w c ns m) {q : Nat} (k : Nat) (u : Value) (h : c ≠ q) : Has (w.setCell ⟨q, k, Option.none⟩ u) c ns m := H.grownDi (grownPutsY w q k [u]) (fun e => h (Option.some.inj e))
theorem Prs.allocDi {w : World} {b N : Nat} {v : Value} {fs : List Int} (h : Prs w b v N fs) (o : Obj) : Prs (w.alloc o) b v N fs := World.ownsRow.alloc h o
theorem Prs.belowDi {w w' : World} {b N : Nat} {v : Value} {fs : List Int} (h : Prs w b v N fs) (k : Below w.heap.size w w') : Prs w' b v N fs :=
  World.ownsRow.kept (row := Option.none) h ⟨k.os, k.tape, k.output, k.size, fun j hj _ => k.block j hj⟩ (by cases v.ownBlock <;> simp)

def pwI (p : List UInt8) (j : Nat) : Int := ((p.getD j 0).toNat : Int) - 48
/-- The pours of the first k words behind the first one. -/
def pwU (ps : List (List UInt8)) : Nat → List Int
  | 0 => []
  | k + 1 => pwU ps k ++ [pwI (ps.getD (k + 1) []) 0, pwI (ps.getD (k + 1) []) 1]
theorem pwU_len (ps : List (List UInt8)) : ∀ k, (pwU ps k).length = k * 2
  | 0 => rfl
  | k + 1 => by rw [pwU, List.length_append, pwU_len ps k]; simp; omega
def prS (ps : List (List UInt8)) : List Int := getR (ps.getD 0 [])
def twoS (ps : List (List UInt8)) (k : Nat) : Bool := decide (∀ j, j < k → (ps.getD (j + 1) []).length = 2)
def prG (ps : List (List UInt8)) : Bool := okR (ps.getD 0 []) && twoS ps (ps.length - 1) && rpOk (prS ps) (pwU ps (ps.length - 1)) (ps.length - 1)
theorem prS_len (ps : List (List UInt8)) : (prS ps).length = 24 := rfl
theorem two_next {ps : List (List UInt8)} {k : Nat} (h : twoS ps k = true) (h2 : (ps.getD (k + 1) []).length = 2) : twoS ps (k + 1) = true := by
  unfold twoS at *
  refine decide_eq_true (fun j hj => ?_)
  by_cases e : j = k
  · subst e; exact h2
  · exact of_decide_eq_true h j (by omega)
theorem two_zero (ps : List (List UInt8)) : twoS ps 0 = true := decide_eq_true (fun j hj => by omega)
theorem two_off {ps : List (List UInt8)} {k n : Nat} (hk : k < n) (h2 : ¬ (ps.getD (k + 1) []).length = 2) : twoS ps n = false := by
  unfold twoS
  exact decide_eq_false (fun h => h2 (h k hk))
def totS : List (List UInt8) → Nat
  | [] => 0
  | p :: r => p.length + 1 + totS r
theorem tot_split (b : UInt8) : ∀ l, totS (splitL b l) = l.length + 1
  | [] => rfl
  | c :: r => by
    have ih := tot_split b r
    rw [splitL]
    split
    · show 0 + 1 + totS (splitL b r) = _
      rw [ih, List.length_cons]; omega
    · have hne := splitL_ne b r
      cases h : splitL b r with
      | nil => exact absurd h hne
      | cons p ps =>
        rw [h] at ih
        simp only [totS, List.length_cons] at ih ⊢
        omega
theorem tot_two : ∀ {r : List (List UInt8)}, (∀ j, j < r.length → (r.getD j []).length = 2) → totS r = r.length * 3
  | [], _ => rfl
  | p :: r, h => by
    have h0 := h 0 (by simp)
    rw [List.getD_cons_zero] at h0
    have ih := tot_two (r := r) (fun j hj => by
      have := h (j + 1) (by simp; omega)
      rwa [List.getD_cons_succ] at this)
    rw [totS, ih, h0, List.length_cons]; omega
theorem prG_len {l : List UInt8} (h : prG (splitL 32 l) = true) : l.length ≤ 209 := by
  have ht := tot_split 32 l
  have hne := splitL_ne 32 l
  unfold prG at h
  obtain ⟨h1, h3⟩ := Bool.and_eq_true_iff.1 h
  obtain ⟨h1, h2⟩ := Bool.and_eq_true_iff.1 h1
  have h60 := rp_le h3
  have h2' := of_decide_eq_true h2
  clear h h2 h3
  cases hs : splitL 32 l with
  | nil => exact absurd hs hne
  | cons p r =>
    rw [hs] at ht h1 h2' h60
    rw [List.getD_cons_zero] at h1
    have h29 := (ok_parts h1).1
    have := tot_two (r := r) (fun j hj => by
      have := h2' j (by simpa using hj)
      rwa [List.getD_cons_succ] at this)
    rw [totS, this, h29] at ht
    simp at h60
    omega
theorem splitP_32 (s : ByteArray) (h : s.size ≤ 4000) : splitP s ⟨#[32]⟩ = splitL 32 s.data.toList := if_pos ⟨h, rfl⟩
theorem splitB_32 (s : ByteArray) (h : s.size ≤ 4000) : splitB s ⟨#[32]⟩ = true := decide_eq_true ⟨h, rfl⟩
theorem splitB_32no (s : ByteArray) (h : ¬ s.size ≤ 4000) : splitB s ⟨#[32]⟩ = false := decide_eq_false (fun e => h e.1)
theorem pr_no1 {ps : List (List UInt8)} (h : okR (ps.getD 0 []) = false) : prG ps = false := by unfold prG; rw [h]; rfl
theorem pr_no2 {ps : List (List UInt8)} (h : twoS ps (ps.length - 1) = false) : prG ps = false := by unfold prG; rw [h, Bool.and_false]; rfl
theorem pr_yes {ps : List (List UInt8)} (h1 : okR (ps.getD 0 []) = true) (h2 : twoS ps (ps.length - 1) = true) : prG ps = rpOk (prS ps) (pwU ps (ps.length - 1)) (ps.length - 1) := by unfold prG; rw [h1, h2]; rfl

set_option maxHeartbeats 1600000 in
set_option maxRecDepth 100000 in
theorem readPour_any (x : ByteArray) (w : World) (h : x.size = 2) :
    Calls Try.prog 53 #[.string x] w fun e w' => e = .returned (.agg (ints [pwI x.data.toList 0, pwI x.data.toList 1]).toArray) ∧ Kept w w' := by
  have hb0 := dat_at x 0 (by omega)
  have hb1 := dat_at x 1 (by omega)
  have e0 : Hid (pwI x.data.toList 0 = (x[0].toNat : Int) - 48) := Lib.hid (by unfold pwI; rw [hb0])
  have e1 : Hid (pwI x.data.toList 1 = (x[1].toNat : Int) - 48) := Lib.hid (by unfold pwI; rw [hb1])
  have l0 := UInt8.toNat_lt x[0]
  have l1 := UInt8.toNat_lt x[1]
  have HB := Lib.hid ((kept_refl w).alloc (.cells #[.int .i64 0, .int .i64 0] 51))
  have Z : Has (w.alloc (.cells #[.int .i64 0, .int .i64 0] 51)) w.heap.size [0, 0] 2 := Has.box (ns := [0, 0]) (n := 2) w 51 rfl (by omega)
  have wr0 : IntKind.i64.wrap ((x[0].toNat : Int)) = (x[0].toNat : Int) := IntWalk.i64_in _ (by omega)
  have wr1 : IntKind.i64.wrap ((x[1].toNat : Int)) = (x[1].toNat : Int) := IntWalk.i64_in _ (by omega)
  have wr2 : IntKind.i64.wrap ((x[0].toNat : Int) - 48) = (x[0].toNat : Int) - 48 := IntWalk.i64_in _ (by omega)
  have wr3 : IntKind.i64.wrap ((x[1].toNat : Int) - 48) = (x[1].toNat : Int) - 48 := IntWalk.i64_in _ (by omega)
  have hs0 : (0 : Int) < (x.size : Int) := by omega
  have hs1 : (1 : Int) < (x.size : Int) := by omega
  have hs2 : 0 < x.size := by omega
  have hs3 : 1 < x.size := by omega
  clear hb0 hb1
  go_enter Try.func53, Try.ntmps53
  go_upto_region 1 with fail
  generalize w.alloc (.cells #[.int .i64 0, .int .i64 0] 51) = W at *
  have hiP : (Try.prog.info? 51).map (·.size) = some (ints [(x[0].toNat : Int) - 48, (x[1].toNat : Int) - 48]).length := by kernel_rfl
  go_wp2_with fail
  refine wp_region_held_drew (S := fun _ => True) (by kernel_rfl) trivial (fun hHeld => ?_)
  (refine wpAnyH_take (i := 0) (v := ?_) rfl (by kernel_rfl) (by kernel_rfl) (by kernel_rfl) (fun _ _ _ h => h) (Or.inl ⟨by rfl, ?_⟩) hHeld ?_; rotate_left; (· (intro w' hSw; go_simp; try with_reducible rfl)); (try simp only [List.getElem_toArray, List.getElem_cons_zero, List.getElem_cons_succ, Act.put, List.setIfInBounds_toArray, List.set_cons_zero, List.set_cons_succ])); (refine wpAnyH_take (i := 1) (v := ?_) rfl (by kernel_rfl) (by kernel_rfl) (by kernel_rfl) (fun _ _ _ h => h) (Or.inl ⟨by rfl, ?_⟩) hHeld ?_; rotate_left; (· (intro w' hSw; go_simp; try with_reducible rfl)); (try simp only [List.getElem_toArray, List.getElem_cons_zero, List.getElem_cons_succ, Act.put, List.setIfInBounds_toArray, List.set_cons_zero, List.set_cons_succ])); (refine wpAnyH_take (i := 2) (v := ?_) rfl (by kernel_rfl) (by kernel_rfl) (by kernel_rfl) (fun _ _ _ h => h) (Or.inl ⟨by rfl, ?_⟩) hHeld ?_; rotate_left; (· (intro w' hSw; go_simp; try with_reducible rfl)); (try simp only [List.getElem_toArray, List.getElem_cons_zero, List.getElem_cons_succ, Act.put, List.setIfInBounds_toArray, List.set_cons_zero, List.set_cons_succ])); (refine wpAnyH_take (i := 3) (v := ?_) rfl (by kernel_rfl) (by kernel_rfl) (by kernel_rfl) (fun _ _ _ h => h) (Or.inl ⟨by rfl, ?_⟩) hHeld ?_; rotate_left; (· (intro w' hSw; go_simp; try with_reducible rfl)); (try simp only [List.getElem_toArray, List.getElem_cons_zero, List.getElem_cons_succ, Act.put, List.setIfInBounds_toArray, List.set_cons_zero, List.set_cons_succ])); (refine wpAnyH_take (i := 4) (v := ?_) rfl (by kernel_rfl) (by kernel_rfl) (by kernel_rfl) (fun _ _ _ h => h) (Or.inl ⟨by rfl, ?_⟩) hHeld ?_; rotate_left; (· (intro w' hSw; go_simp; try with_reducible rfl)); (try simp only [List.getElem_toArray, List.getElem_cons_zero, List.getElem_cons_succ, Act.put, List.setIfInBounds_toArray, List.set_cons_zero, List.set_cons_succ])); (refine wpAnyH_take (i := 5) (v := ?_) rfl (by kernel_rfl) (by kernel_rfl) (by kernel_rfl) (fun _ _ _ h => h) (Or.inl ⟨by rfl, ?_⟩) hHeld ?_; rotate_left; (· (intro w' hSw; go_simp; try with_reducible rfl)); (try simp only [List.getElem_toArray, List.getElem_cons_zero, List.getElem_cons_succ, Act.put, List.setIfInBounds_toArray, List.set_cons_zero, List.set_cons_succ])); (refine wpAnyH_take (i := 6) (v := ?_) rfl (by kernel_rfl) (by kernel_rfl) (by kernel_rfl) (fun _ _ _ h => h) (Or.inl ⟨by rfl, ?_⟩) hHeld ?_; rotate_left; (· (intro w' hSw; go_simp; try with_reducible rfl)); (try simp only [List.getElem_toArray, List.getElem_cons_zero, List.getElem_cons_succ, Act.put, List.setIfInBounds_toArray, List.set_cons_zero, List.set_cons_succ])); (refine wpAnyH_take (i := 7) (v := ?_) rfl (by kernel_rfl) (by kernel_rfl) (by kernel_rfl) (fun _ _ _ h => h) (Or.inl ⟨by rfl, ?_⟩) hHeld ?_; rotate_left; (· (intro w' hSw; go_simp; try with_reducible rfl)); (try simp only [List.getElem_toArray, List.getElem_cons_zero, List.getElem_cons_succ, Act.put, List.setIfInBounds_toArray, List.set_cons_zero, List.set_cons_succ])); (refine wpAnyH_take (i := 8) (v := ?_) rfl (by kernel_rfl) (by kernel_rfl) (by kernel_rfl) (fun _ _ _ h => h) (Or.inl ⟨by rfl, ?_⟩) hHeld ?_; rotate_left; (· (intro w' hSw; go_simp; try with_reducible rfl)); (try simp only [List.getElem_toArray, List.getElem_cons_zero, List.getElem_cons_succ, Act.put, List.setIfInBounds_toArray, List.set_cons_zero, List.set_cons_succ]))
  have ZD : Has W.drew w.heap.size [0, 0] 2 := Z.below ((kept_refl W).drewN 1)
  have hHeld : Kept W W.drew := (kept_refl W).drewN 1
  have Z1 := ZD.putAll [(x[0].toNat : Int) - 48, (x[1].toNat : Int) - 48] rfl
  have HB1 : Hid (Kept w (W.drew.setCells w.heap.size 0 (ints [(x[0].toNat : Int) - 48, (x[1].toNat : Int) - 48]))) := Lib.hid ((HB.out.call hHeld).puts (b := w.heap.size) (Nat.le_refl _) 0 _)
  refine wpAnyH_ready (rs := [9]) (by kernel_rfl) (by simp) ?_
  refine AllReadyH.cons (o := _) rfl (fun K hK => ?_) AllReadyH.nil
  (simp only [List.getElem_toArray, List.getElem_cons_zero, List.getElem_cons_succ, Region.wanted, if_true])
  refine wp_store_mid _ _ _ rfl _ _ (ints [(x[0].toNat : Int) - 48, (x[1].toNat : Int) - 48]).toArray rfl rfl ZD.there hiP (all_oneCell_toArray (ints_one _)) ?_
  (try simp only [List.getElem_toArray, List.getElem_cons_zero, List.getElem_cons_succ, Act.put, List.setIfInBounds_toArray, List.set_cons_zero, List.set_cons_succ, List.toList_toArray])
  refine hK.out _ _ trivial (fun hHeld => ?_)
  clear hK K
  refine wpAnyH_done (by kernel_rfl) ?_ _
  generalize W.drew.setCells w.heap.size 0 (ints [(x[0].toNat : Int) - 48, (x[1].toNat : Int) - 48]) = W2 at *
  go_wp2_with fail
  exact bodyPost_ret (v := .agg (ints [(x[0].toNat : Int) - 48, (x[1].toNat : Int) - 48]).toArray) (res_has (P := Try.prog) rfl _ _ w.heap.size _ 2 _ rfl Z1 Try.underlying51 rfl (by kernel_rfl)) rfl ⟨by rw [e0.out, e1.out], HB1.out⟩
end Go.Proofs.Ytalngdccjoafhab.base
