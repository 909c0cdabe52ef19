/-
  The runs of a tube: plain mathematics, and the model's side, walked: a new slice of pairs.
-/
import Derived.Test.YtalngdccjoafhabSpecWZ
import Derived.OwnWalk
import Derived.Laws.AppendOwn
import Derived.Laws.OwnMore
import Derived.Deep.AppendLies
import Derived.Deep.RegionHeld3
namespace Go.Proofs.Ytalngdccjoafhab.base
open Go.ChangeShapes Go.WideShapes Go.ChangeAt Go.RowKit
set_option linter.unusedVariables false
set_option linter.unusedSimpArgs false

/-- The last count of a flat list of pairs goes up. -/
def bumpF (fs : List Int) : List Int := fs.set (fs.length - 1) (fs.getD (fs.length - 1) 0 + 1)
/-- The runs of the first k layers, flat: colors and counts. -/
def runsF (t : List Int) : Nat → List Int
  | 0 => []
  | k + 1 => if k ≠ 0 ∧ t.getD k 0 = t.getD (k - 1) 0 then bumpF (runsF t k) else runsF t k ++ [t.getD k 0, 1]
def runsN (t : List Int) (k : Nat) : Nat := (runsF t k).length / 2
theorem runsF0 (t : List Int) : runsF t 0 = [] := rfl
theorem runsN0 (t : List Int) : runsN t 0 = 0 := by unfold runsN; rw [runsF0]; rfl
theorem runsF_new (t : List Int) (k : Nat) (h : ¬ (k ≠ 0 ∧ t.getD k 0 = t.getD (k - 1) 0)) : runsF t (k + 1) = runsF t k ++ [t.getD k 0, 1] := by rw [runsF, if_neg h]
theorem runsF_same (t : List Int) (k : Nat) (h : k ≠ 0 ∧ t.getD k 0 = t.getD (k - 1) 0) : runsF t (k + 1) = bumpF (runsF t k) := by rw [runsF, if_pos h]
theorem runsN_new (t : List Int) (k : Nat) (h : ¬ (k ≠ 0 ∧ t.getD k 0 = t.getD (k - 1) 0)) : runsN t (k + 1) = runsN t k + 1 := by
  unfold runsN; rw [runsF_new t k h, List.length_append]; simp
theorem runsN_same (t : List Int) (k : Nat) (h : k ≠ 0 ∧ t.getD k 0 = t.getD (k - 1) 0) : runsN t (k + 1) = runsN t k := by
  unfold runsN; rw [runsF_same t k h]; unfold bumpF; rw [List.length_set]
def runsOK (t : List Int) : Bool := (List.range 5).all fun k =>
  decide ((runsF t k).length = runsN t k * 2) && decide (runsN t k ≤ k) && (decide (k = 0) || decide (0 < runsN t k)) && (runsF t k).all (fun x => decide (0 ≤ x ∧ x ≤ 5))
theorem runsOK_all : allT.all runsOK = true := by decide +kernel
structure RunFacts (t : List Int) (k : Nat) : Prop where
  len : (runsF t k).length = runsN t k * 2
  small : runsN t k ≤ k
  some : k = 0 ∨ 0 < runsN t k
  vals : ∀ x ∈ runsF t k, 0 ≤ x ∧ x ≤ 5
theorem runFacts {t : List Int} (h4 : t.length = 4) (hv : vT t = true) (k : Nat) (hk : k ≤ 4) : RunFacts t k := by
  have h := List.all_eq_true.1 (forT runsOK runsOK_all h4 hv) k (by simp; omega)
  simp only [Bool.and_eq_true, Bool.or_eq_true, decide_eq_true_eq, List.all_eq_true] at h
  exact ⟨h.1.1.1, h.1.1.2, h.1.2, h.2⟩

/-! rows of pairs that are the call's own -/
theorem infoPair : (Try.prog.info? 51).map (fun i => (i.zero, i.size, i.bytes)) = some (some (.agg #[.int .i64 0, .int .i64 0]), 2, 16) := by kernel_rfl
/-- The value v is a row of n pairs, flat: fs, in blocks from b on. -/
def Prs (w : World) (b : Nat) (v : Value) (n : Nat) (fs : List Int) : Prop := w.ownsRow b 51 2 v n (ints fs)
theorem Prs.below {w w' : World} {b : Nat} {v : Value} {n : Nat} {fs : List Int} (h : Prs w b v n fs) (m : Below w.heap.size w w') : Prs w' b v n fs :=
  World.ownsRow.kept (row := none) h ⟨m.os, m.tape, m.output, m.size, fun k hk _ => m.block k hk⟩ (by cases v.ownBlock <;> simp)
theorem Prs.drewN {w : World} {b : Nat} {v : Value} {n : Nat} {fs : List Int} (h : Prs w b v n fs) (k : Nat) : Prs (w.drewN k) b v n fs := h
theorem Prs.alloc {w : World} {b : Nat} {v : Value} {n : Nat} {fs : List Int} (h : Prs w b v n fs) (o : Obj) : Prs (w.alloc o) b v n fs := World.ownsRow.alloc h o
theorem Prs.none (w : World) (b : Nat) (hb : b ≤ w.heap.size) : Prs (w.alloc (.cells #[] 51)) b (.slice (some ⟨w.heap.size, 0, Option.none⟩) 0 0) 0 [] := by
  have := World.ownsRow_made (base := b) (e := 51) (size := 2) w #[] 0 hb (by unfold maxLen; omega) (by simp)
  simpa [Prs, ints] using this
theorem Prs.form {w : World} {b : Nat} {v : Value} {n : Nat} {fs : List Int} (h : Prs w b v n fs) (hn : 0 < n) : ∃ g cap, v = .slice (some ⟨g, 0, Option.none⟩) n cap ∧ b ≤ g ∧ g < w.heap.size := by
  rcases h.2 with ⟨_, h0⟩ | ⟨g, cap, cur, hv, hb, hg, _⟩
  · omega
  · exact ⟨g, cap, hv, hb, lt_of_block hg⟩
theorem Has.grown {w w' : World} {c : Nat} {ns : List Int} {m : Nat} (H : Has w c ns m) {r : Option Nat} (hg : w.grownBy w' r) (hr : ∀ k, r = some k → c + 1 ≤ k) : Has w' c ns m :=
  ⟨H.holds.below ((Below.refl (c + 1) w).grown hg H.lt hr) (Nat.lt_succ_self c), H.len, H.pos⟩
theorem Prs.own {w : World} {b : Nat} {v : Value} {n : Nat} {fs : List Int} (h : Prs w b v n fs) : ∀ k, v.ownBlock = some k → b ≤ k := fun k hk => (World.ownsRow.lt h k hk).1
theorem Prs.mono {w : World} {b b' : Nat} {v : Value} {n : Nat} {fs : List Int} (h : Prs w b v n fs) (hb : b' ≤ b) : Prs w b' v n fs := by
  refine ⟨h.1, ?_⟩
  rcases h.2 with h0 | ⟨g, cap, cur, hv, hg, rest⟩
  · exact .inl h0
  · exact .inr ⟨g, cap, cur, hv, by omega, rest⟩
/-- Two new cells are what a pair's block holds. -/
theorem cell_two_new (w : World) (x y : Value) (t : TypeId) : ∀ j u, [x, y][j]? = some u → (w.alloc (.cells #[x, y] t)).cell? ((⟨w.heap.size, 0, Option.none⟩ : Addr).add j) = some u :=
  World.news_of_block (w := w.alloc (.cells #[x, y] t)) (B := w.heap.size) (cs := #[x, y]) (t := t) (fr := (0, 0)) (by rw [show (w.alloc (.cells #[x, y] t)).heap = w.heap.push (.cells #[x, y] t) from rfl]; simp)

/-- One pair more. -/
theorem prs_new {w0 w1 w3 : World} {c q : Nat} {t : List Int} {k : Nat} {v v' : Value} {o : Obj} (GP : Prs w1 (c + 1) v (runsN t k) (runsF t k)) (G : Has w1 c t 4) (GB : Kept w0 w1) (hc : w0.heap.size ≤ c)
    (hn : ¬ (k ≠ 0 ∧ t.getD k 0 = t.getD (k - 1) 0)) (hown : w3.ownsRow (c + 1) 51 2 v' (runsN t k + 1) (ints (runsF t k) ++ [.int .i64 (t.getD k 0), .int .i64 1])) (hg : ((w1.drewN q).alloc o).grownBy w3 v.ownBlock) :
    Has w3 c t 4 ∧ Prs w3 (c + 1) v' (runsN t (k + 1)) (runsF t (k + 1)) ∧ Kept w0 w3 := by
  refine ⟨((G.drewN q).alloc o).grown hg GP.own, ?_, ((GB.drewN q).alloc o).grown hg ((GB.drewN q).alloc o).size (fun j hj => by have := GP.own j hj; omega)⟩
  unfold Prs
  rw [runsN_new t k hn, runsF_new t k hn]
  have e : ints (runsF t k ++ [t.getD k 0, 1]) = ints (runsF t k) ++ [.int .i64 (t.getD k 0), .int .i64 1] := by simp [ints]
  rw [e]; exact hown
/-- The last count goes up. -/
theorem prs_bump {w0 w1 : World} {c g m cap : Nat} {t : List Int} {k : Nat} (GP : Prs w1 (c + 1) (.slice (some ⟨g, 0, Option.none⟩) (m + 1) cap) (m + 1) (runsF t k)) (G : Has w1 c t 4) (GB : Kept w0 w1) (hc : w0.heap.size ≤ c) (hm : runsN t k = m + 1)
    (hlen : (runsF t k).length = (m + 1) * 2) (hs : k ≠ 0 ∧ t.getD k 0 = t.getD (k - 1) 0) :
    w1.cell? ⟨g, m * 2 + 1, Option.none⟩ = some (.int .i64 ((runsF t k).getD (m * 2 + 1) 0)) ∧ w1.frozen? ⟨g, m * 2 + 1, Option.none⟩ = false ∧
    Has (w1.setCell ⟨g, m * 2 + 1, Option.none⟩ (.int .i64 ((runsF t k).getD (m * 2 + 1) 0 + 1))) c t 4 ∧
    Prs (w1.setCell ⟨g, m * 2 + 1, Option.none⟩ (.int .i64 ((runsF t k).getD (m * 2 + 1) 0 + 1))) (c + 1) (.slice (some ⟨g, 0, Option.none⟩) (m + 1) cap) (runsN t (k + 1)) (runsF t (k + 1)) ∧
    Kept w0 (w1.setCell ⟨g, m * 2 + 1, Option.none⟩ (.int .i64 ((runsF t k).getD (m * 2 + 1) 0 + 1))) := by
  have hgc : c + 1 ≤ g := GP.own g rfl
  refine ⟨?_, World.ownsRow.frozenAt GP _, G.setOther _ _ (by omega), ?_, GB.set (by omega) _ _⟩
  · rw [World.ownsRow.cellAt GP (m * 2 + 1) (by omega)]
    exact ints_get _ _ (by omega)
  · have := (World.ownsRow.stored GP (m * 2 + 1) (.int .i64 ((runsF t k).getD (m * 2 + 1) 0 + 1))).1
    unfold Prs
    rw [runsN_same t k hs, runsF_same t k hs, hm]
    unfold bumpF
    rw [show (runsF t k).length - 1 = m * 2 + 1 by omega]
    have e : ints ((runsF t k).set (m * 2 + 1) ((runsF t k).getD (m * 2 + 1) 0 + 1)) = (ints (runsF t k)).set (m * 2 + 1) (.int .i64 ((runsF t k).getD (m * 2 + 1) 0 + 1)) := by unfold ints; rw [List.map_set]
    rw [e]; exact this
theorem val_at {t : List Int} {k j : Nat} (F : RunFacts t k) (h : j < (runsF t k).length) : 0 ≤ (runsF t k).getD j 0 ∧ (runsF t k).getD j 0 ≤ 5 := by
  rw [List.getD_eq_getElem?_getD, List.getElem?_eq_getElem h]
  exact F.vals _ (List.getElem_mem h)

set_option maxHeartbeats 1600000 in
set_option maxRecDepth 100000 in
theorem l2Runs_any (t : List Int) (w : World) (h4 : t.length = 4) (hv : vT t = true) :
    Calls Try.prog 60 #[row t] w fun e w' => ∃ v : Value, e = .returned v ∧ Prs w' w.heap.size v (runsN t (lay t)) (runsF t (lay t)) ∧ Kept w w' := by
  obtain ⟨i0, hi, hz0, hz1, hz2⟩ := info_parts infoPair
  have hL := (tubeFacts h4 hv).lay4
  have HB := Lib.hid (((kept_refl w).alloc (.cells (ints t).toArray 22)).alloc (.cells #[] 51))
  have H := (Has.box w 22 h4 (by omega)).alloc (.cells #[] 51)
  have P0 := Prs.none (w.alloc (.cells (ints t).toArray 22)) (w.heap.size + 1) (by simp)
  rw [size1] at P0
  have P1 : Prs ((w.alloc (.cells (ints t).toArray 22)).alloc (.cells #[] 51)) (w.heap.size + 1) (.slice (some ⟨w.heap.size + 1, 0, none⟩) 0 0) (runsN t 0) (runsF t 0) := by rw [runsN0, runsF0]; exact P0
  clear P0
  rw [row_ints]
  go_enter Try.func60, Try.ntmps60
  go_wp2_with fail
  have H4 := Lib.hid h4
  have HV := Lib.hid hv
  clear h4 hv
  generalize ((w.alloc (.cells (ints t).toArray 22)).alloc (.cells #[] 51)) = W at *
  go_loopw [3, 4] (fun v i wr => ∃ k : Nat, k ≤ lay t ∧ i = .int .i64 k ∧ Has wr w.heap.size t 4 ∧ Hid (Prs wr (w.heap.size + 1) v (runsN t k) (runsF t k)) ∧ Hid (Kept w wr)) (fun _ z _ => 4 - (intOf z).toNat)
  case atStart => exact ⟨0, by omega, rfl, H, Lib.hid P1, HB⟩
  case round =>
    obtain ⟨k, hk, rfl, G1, GP, GB⟩ := hrel
    go_wp2_with (refine load_has rfl 22 _ rfl _ rfl ?_ 4 ?_ _ Try.underlying22 rfl ?_ ?_; rotate_left; (· (repeat (first | (with_reducible assumption) | ((with_reducible refine Has.box _ _ ?_ ?_) <;> (first | assumption | decide)) | (with_reducible refine Has.alloc ?_ _) | ((with_reducible refine Has.putOther ?_ _ _ ?_); rotate_left; omega; skip) | ((with_reducible refine Has.below ?_ ?_); rotate_left; assumption)))); (· kernel_rfl))
    refine (l2Many_any t _ H4.out HV.out).mono ?_
    rintro e w1 ⟨rfl, b1⟩
    have G2 := G1.below b1
    have GP2 := Lib.hid (GP.out.below b1)
    have GB2 := Lib.hid (GB.out.call b1)
    clear G1 GP GB b1
    have F := Lib.hid (runFacts H4.out HV.out k (by omega))
    by_cases hkl : k < lay t
    · have c0 := G2.cell k (by omega)
      have g0 : decide ((k : Int) < (lay t : Int)) = true := by simp; omega
      obtain ⟨x, hx⟩ : ∃ x, x = t.getD k 0 := ⟨_, rfl⟩
      rw [← hx] at c0
      have HX := Lib.hid hx
      clear hx
      have hbs := GB2.out.size
      have hnk := F.out.small
      by_cases k0 : k = 0
      · subst k0
        have s0 := runsN0 t
        go_wp2_with fail
        go_quiet (fail)
        go_wp2_with (first | (at_builtin; refine wpList_append_own _ rfl _ _ 26 rfl (w.heap.size + 1) 51 i0 (.agg #[.int .i64 0, .int .i64 0]) 2 16 Try.underlying26 hi hz0 hz1 hz2 rfl (by decide) _ (runsN t 0) (ints (runsF t 0)) rfl (World.ownsRow.alloc (GP2.out.drewN nq) _) ⟨(w1.drewN nq).heap.size, 0, none⟩ 1 1 [.int .i64 x, .int .i64 1] rfl rfl (cell_two_new _ _ _ _) (fun x hx => by simp at hx; rcases hx with rfl | rfl <;> rfl) (by unfold maxLen; omega) (by omega) (by simp; omega) ?_; intro v' w3 hown' hgrow3 hnil3))
        rw [HX.out] at hown'
        obtain ⟨A1, A2, A3⟩ := prs_new GP2.out G2 GB2.out (Nat.le_refl _) (fun h => h.1 rfl) hown' hgrow3
        have B2 := Lib.hid A2
        have B3 := Lib.hid A3
        clear hown' hgrow3 hnil3 A2 A3
        go_roundw
        case rel => exact ⟨0 + 1, by omega, by go_num, A1, B2, B3⟩
        case measure => simp [intOf]; try omega
      · have q1 : decide ((0 : Int) < (k : Int)) = true := by simp; omega
        have q2 : decide (0 < k) = true := by simp; omega
        have k2 : ((k : Int) - 1).toNat = k - 1 := by omega
        have k3 : (0 : Int) ≤ (k : Int) - 1 := by omega
        have k4 : (k : Int) - 1 < 4 := by omega
        have k5 : (k : Int) < 4 := by omega
        have w1' : IntKind.i64.wrap ((k : Int) - 1) = (k : Int) - 1 := IntWalk.i64_in _ (by omega)
        have c1 := G2.cell (k - 1) (by omega)
        obtain ⟨y, hy⟩ : ∃ y, y = t.getD (k - 1) 0 := ⟨_, rfl⟩
        rw [← hy] at c1
        by_cases e : x = y
        · have HS := Lib.hid (show k ≠ 0 ∧ t.getD k 0 = t.getD (k - 1) 0 from ⟨k0, by rw [← HX.out, ← hy, e]⟩)
          clear hy
          subst e
          go_wp2_with fail
          go_quiet (fail)
          clear w1'
          obtain ⟨m, hm⟩ : ∃ m, runsN t k = m + 1 := ⟨runsN t k - 1, by have := F.out.some; omega⟩
          have GP3 : Prs (w1.drewN (nq + 1)) (w.heap.size + 1) u3 (m + 1) (runsF t k) := hm ▸ GP2.out.drewN (nq + 1)
          obtain ⟨g, cap, rfl, hg1, hg2⟩ := GP3.form (by omega)
          have hlen : (runsF t k).length = (m + 1) * 2 := by rw [← hm]; exact F.out.len
          have hvl := val_at F.out (j := m * 2 + 1) (by omega)
          have m4 : m + 1 ≤ 4 := by omega
          have m0 : ((m + 1 : Nat) : Int) - 1 = (m : Int) := by omega
          have m1 : (m : Int) < ((m + 1 : Nat) : Int) := by omega
          have m2 : (m : Int) < (m : Int) + 1 := by omega
          have m3 : (0 : Int) ≤ (m : Int) := by omega
          have wm : IntKind.i64.wrap (m : Int) = (m : Int) := IntWalk.i64_in _ (by omega)
          have HLE := Lib.hid hlen
          clear hlen c0 c1
          go_wp2_with fail
          obtain ⟨bc, bf, bh, bp, bk⟩ := prs_bump GP3 (G2.drewN (nq + 1)) (GB2.out.drewN (nq + 1)) (Nat.le_refl _) hm HLE.out HS.out
          have wz : IntKind.i64.wrap ((runsF t k).getD (m * 2 + 1) 0 + 1) = (runsF t k).getD (m * 2 + 1) 0 + 1 := IntWalk.i64_in _ (by omega)
          have BH := Lib.hid bh
          have BP := Lib.hid bp
          have BK := Lib.hid bk
          clear bh bp bk
          obtain ⟨z, hz⟩ : ∃ z, z = (runsF t k).getD (m * 2 + 1) 0 := ⟨_, rfl⟩
          rw [← hz] at bc wz hvl BH BP BK
          clear hz
          refine wp_region_held_drew (S := fun _ => True) (by kernel_rfl) trivial (fun hHeld => ?_)
          (refine wpAnyH_take (i := 0) (v := ?_) rfl (by kernel_rfl) (by kernel_rfl) (by kernel_rfl) (fun _ _ _ h => h) (Or.inl ⟨by rfl, ?_⟩) hHeld ?_; rotate_left; (· (intro w' hSw; go_simp; try with_reducible rfl)); (try simp only [List.getElem_toArray, List.getElem_cons_zero, List.getElem_cons_succ, Act.put, List.setIfInBounds_toArray, List.set_cons_zero, List.set_cons_succ])); (refine wpAnyH_take (i := 1) (v := ?_) rfl (by kernel_rfl) (by kernel_rfl) (by kernel_rfl) (fun _ _ _ h => h) (Or.inl ⟨by rfl, ?_⟩) hHeld ?_; rotate_left; (· (intro w' hSw; go_simp; try with_reducible rfl)); (try simp only [List.getElem_toArray, List.getElem_cons_zero, List.getElem_cons_succ, Act.put, List.setIfInBounds_toArray, List.set_cons_zero, List.set_cons_succ]))
          (refine wpAnyH_ready (rs := [2]) (by kernel_rfl) (by simp) ?_; refine AllReadyH.cons (o := _) rfl (fun K hK => ?_) AllReadyH.nil; (simp only [List.getElem_toArray, List.getElem_cons_zero, List.getElem_cons_succ, Region.wanted, if_true]))
          go_simp
          (try simp only [List.getElem_toArray, List.getElem_cons_zero, List.getElem_cons_succ, Act.put, List.setIfInBounds_toArray, List.set_cons_zero, List.set_cons_succ])
          refine hK.out _ _ trivial (fun hHeld => ?_)
          clear hK K
          (refine wpAnyH_take (i := 3) (v := ?_) rfl (by kernel_rfl) (by kernel_rfl) (by kernel_rfl) (fun _ _ _ h => h) (Or.inl ⟨by rfl, ?_⟩) hHeld ?_; rotate_left; (· (intro w' hSw; go_simp; try with_reducible rfl)); (try simp only [List.getElem_toArray, List.getElem_cons_zero, List.getElem_cons_succ, Act.put, List.setIfInBounds_toArray, List.set_cons_zero, List.set_cons_succ])); (refine wpAnyH_take (i := 4) (v := ?_) rfl (by kernel_rfl) (by kernel_rfl) (by kernel_rfl) (fun _ _ _ h => h) (Or.inl ⟨by rfl, ?_⟩) hHeld ?_; rotate_left; (· (intro w' hSw; go_simp; try with_reducible rfl)); (try simp only [List.getElem_toArray, List.getElem_cons_zero, List.getElem_cons_succ, Act.put, List.setIfInBounds_toArray, List.set_cons_zero, List.set_cons_succ])); (refine wpAnyH_take (i := 5) (v := ?_) rfl (by kernel_rfl) (by kernel_rfl) (by kernel_rfl) (fun _ _ _ h => h) (Or.inl ⟨by rfl, ?_⟩) hHeld ?_; rotate_left; (· (intro w' hSw; go_simp; try with_reducible rfl)); (try simp only [List.getElem_toArray, List.getElem_cons_zero, List.getElem_cons_succ, Act.put, List.setIfInBounds_toArray, List.set_cons_zero, List.set_cons_succ])); (refine wpAnyH_take (i := 8) (v := ?_) rfl (by kernel_rfl) (by kernel_rfl) (by kernel_rfl) (fun _ _ _ h => h) (Or.inl ⟨by rfl, ?_⟩) hHeld ?_; rotate_left; (· (intro w' hSw; go_simp; try with_reducible rfl)); (try simp only [List.getElem_toArray, List.getElem_cons_zero, List.getElem_cons_succ, Act.put, List.setIfInBounds_toArray, List.set_cons_zero, List.set_cons_succ]))
          (refine wpAnyH_ready (rs := [6]) (by kernel_rfl) (by simp) ?_; refine AllReadyH.cons (o := _) rfl (fun K hK => ?_) AllReadyH.nil; (simp only [List.getElem_toArray, List.getElem_cons_zero, List.getElem_cons_succ, Region.wanted, if_true]))
          go_simp
          (try simp only [List.getElem_toArray, List.getElem_cons_zero, List.getElem_cons_succ, Act.put, List.setIfInBounds_toArray, List.set_cons_zero, List.set_cons_succ])
          refine hK.out _ _ trivial (fun hHeld => ?_)
          clear hK K
          (refine wpAnyH_take (i := 7) (v := ?_) rfl (by kernel_rfl) (by kernel_rfl) (by kernel_rfl) (fun _ _ _ h => h) (Or.inl ⟨by rfl, ?_⟩) hHeld ?_; rotate_left; (· (intro w' hSw; go_simp; try with_reducible rfl)); (try simp only [List.getElem_toArray, List.getElem_cons_zero, List.getElem_cons_succ, Act.put, List.setIfInBounds_toArray, List.set_cons_zero, List.set_cons_succ])); (refine wpAnyH_take (i := 9) (v := ?_) rfl (by kernel_rfl) (by kernel_rfl) (by kernel_rfl) (fun _ _ _ h => h) (Or.inl ⟨by rfl, ?_⟩) hHeld ?_; rotate_left; (· (intro w' hSw; go_simp; try with_reducible rfl)); (try simp only [List.getElem_toArray, List.getElem_cons_zero, List.getElem_cons_succ, Act.put, List.setIfInBounds_toArray, List.set_cons_zero, List.set_cons_succ]))
          (refine wpAnyH_ready (rs := [10]) (by kernel_rfl) (by simp) ?_; refine AllReadyH.cons (o := _) rfl (fun K hK => ?_) AllReadyH.nil; (simp only [List.getElem_toArray, List.getElem_cons_zero, List.getElem_cons_succ, Region.wanted, if_true]))
          go_simp
          (try simp only [List.getElem_toArray, List.getElem_cons_zero, List.getElem_cons_succ, Act.put, List.setIfInBounds_toArray, List.set_cons_zero, List.set_cons_succ])
          refine hK.out _ _ trivial (fun hHeld => ?_)
          clear hK K
          refine wpAnyH_done (by kernel_rfl) ?_ _
          clear wm bc bf
          go_wp2_with fail
          go_roundw
          case rel => exact ⟨k + 1, by omega, by go_num, BH.out, BP, BK⟩
          case measure => simp [intOf]; omega
        · have HN := Lib.hid (show ¬ (k ≠ 0 ∧ t.getD k 0 = t.getD (k - 1) 0) from fun h => e (by rw [HX.out, hy, h.2]))
          have e1 : (x == y) = false := by simpa using e
          clear e hy
          go_wp2_with fail
          go_quiet (fail)
          clear w1'
          go_wp2_with (first | (at_builtin; refine wpList_append_own _ rfl _ _ 26 rfl (w.heap.size + 1) 51 i0 (.agg #[.int .i64 0, .int .i64 0]) 2 16 Try.underlying26 hi hz0 hz1 hz2 rfl (by decide) _ (runsN t k) (ints (runsF t k)) rfl (World.ownsRow.alloc (GP2.out.drewN nq) _) ⟨(w1.drewN nq).heap.size, 0, none⟩ 1 1 [.int .i64 x, .int .i64 1] rfl rfl (cell_two_new _ _ _ _) (fun x hx => by simp at hx; rcases hx with rfl | rfl <;> rfl) (by unfold maxLen; omega) (by omega) (by simp; omega) ?_; intro v' w3 hown' hgrow3 hnil3))
          rw [HX.out] at hown'
          obtain ⟨A1, A2, A3⟩ := prs_new GP2.out G2 GB2.out (Nat.le_refl _) HN.out hown' hgrow3
          have B2 := Lib.hid A2
          have B3 := Lib.hid A3
          clear hown' hgrow3 hnil3 A2 A3
          go_roundw
          case rel => exact ⟨k + 1, by omega, by go_num, A1, B2, B3⟩
          case measure => simp [intOf]; try omega
    · obtain rfl : k = lay t := by omega
      go_wp2_with fail
      go_ret
      exact ⟨_, rfl, GP2.out.mono (by omega), GB2.out⟩
end Go.Proofs.Ytalngdccjoafhab.base
