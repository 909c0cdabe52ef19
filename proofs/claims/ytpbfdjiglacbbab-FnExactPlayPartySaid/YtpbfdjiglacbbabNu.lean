/-
  Rows of numbers that are the call's own, and the laws' helpers for them, walked.
-/
import Derived.Test.YtpbfdjiglacbbabRunsIZ
import Derived.Test.YtpbfdjiglacbbabGridZ
import Derived.Test.YtpbfdjiglacbbabRackOps
import Derived.Deep.RegionHeld3
namespace Go.Proofs.Ytpbfdjiglacbbab.base
open Go.ChangeShapes Go.WideShapes Go.ChangeAt Go.RowKit
set_option linter.unusedVariables false
set_option linter.unusedSimpArgs false

/-- v is an own row of n numbers. -/
def Nu (w : World) (b : Nat) (v : Value) (n : Nat) (fs : List Int) : Prop := w.ownsRow b 3 1 v n (ints fs)
section
variable {w w' : World} {b n : Nat} {v : Value} {fs : List Int}
theorem Nu.below (h : Nu w b v n fs) (m : Below w.heap.size w w') : Nu w' b v n fs :=
  World.ownsRow.kept (row := none) h ⟨m.os, m.tape, m.output, m.size, fun j hj _ => m.block j hj⟩ (by cases v.ownBlock <;> simp)
theorem Nu.drewN (h : Nu w b v n fs) (k : Nat) : Nu (w.drewN k) b v n fs := h
theorem Nu.alloc (h : Nu w b v n fs) (o : Obj) : Nu (w.alloc o) b v n fs := World.ownsRow.alloc h o
theorem Nu.form (h : Nu w b v n fs) (hn : 0 < n) : ∃ g cap, v = .slice (some ⟨g, 0, Option.none⟩) n cap ∧ b ≤ g ∧ g < w.heap.size := by
  rcases h.2 with ⟨_, h0⟩ | ⟨g, cap, cur, hv, hb, hg, _⟩
  · omega
  · exact ⟨g, cap, hv, hb, lt_of_block hg⟩
theorem Nu.shape (h : Nu w b v n fs) : ∃ a cap, v = .slice a n cap := by
  rcases h.2 with ⟨h0, h1⟩ | ⟨g, cap, cur, hv, _⟩
  · exact ⟨_, _, by rw [h1]; exact h0⟩
  · exact ⟨_, _, hv⟩
theorem Nu.flat (h : Nu w b v n fs) : fs.length = n := by have := h.1; rw [ints_len] at this; omega
theorem Nu.own (h : Nu w b v n fs) : ∀ k, v.ownBlock = some k → b ≤ k ∧ k < w.heap.size := fun k hk => World.ownsRow.lt h k hk
theorem Nu.cell {g cap : Nat} (h : Nu w b (.slice (some ⟨g, 0, Option.none⟩) n cap) n fs) (j : Nat) (hj : j < n) : w.cell? ⟨g, j, Option.none⟩ = some (.int .i64 (fs.getD j 0)) := by
  rw [World.ownsRow.cellAt h j (by omega)]; exact ints_get _ _ (by rw [h.flat]; exact hj)
theorem Nu.cellX {g cap j : Nat} {x : Int} (h : Nu w b (.slice (some ⟨g, 0, Option.none⟩) n cap) n fs) (hj : j < n) (hx : fs.getD j 0 = x) : w.cell? ⟨g, j, Option.none⟩ = some (.int .i64 x) := by rw [h.cell j hj, hx]
theorem Nu.grownP (h : Nu w b v n fs) {r : Option Nat} (hg : w.grownBy w' r) (hr : ∀ k, r = some k → w.heap.size ≤ k ∨ v.ownBlock ≠ some k) : Nu w' b v n fs := by
  refine World.ownsRow.kept (row := r) h hg ?_
  cases hv : v.ownBlock with
  | none => exact .inl rfl
  | some k =>
    right
    intro e
    rcases hr k e.symm with h1 | h1
    · exact absurd (World.ownsRow.lt h k hv).2 (by omega)
    · exact h1 hv
theorem Nu.stored {g cap : Nat} (h : Nu w b (.slice (some ⟨g, 0, Option.none⟩) n cap) n fs) (j : Nat) (z : Int) : Nu (w.setCell ⟨g, j, Option.none⟩ (.int .i64 z)) b (.slice (some ⟨g, 0, Option.none⟩) n cap) n (fs.set j z) ∧ w.grownBy (w.setCell ⟨g, j, Option.none⟩ (.int .i64 z)) (some g) := by
  obtain ⟨a1, a2⟩ := World.ownsRow.stored h j (.int .i64 z)
  rw [ints_set] at a1
  exact ⟨a1, a2⟩
theorem Nu.storedAs {g cap : Nat} (h : Nu w b (.slice (some ⟨g, 0, Option.none⟩) n cap) n fs) (j : Nat) (z : Int) {fs' : List Int} (e : fs.set j z = fs') : Nu (w.setCell ⟨g, j, Option.none⟩ (.int .i64 z)) b (.slice (some ⟨g, 0, Option.none⟩) n cap) n fs' ∧ w.grownBy (w.setCell ⟨g, j, Option.none⟩ (.int .i64 z)) (some g) := e ▸ h.stored j z
theorem Nu.freeAt {g cap : Nat} (h : Nu w b (.slice (some ⟨g, 0, Option.none⟩) n cap) n fs) (j : Nat) : w.frozen? ⟨g, j, Option.none⟩ = false := World.ownsRow.frozenAt h j
theorem grownN_trans {a b c : World} {g : Nat} (h : a.grownBy b (some g)) (k : b.grownBy c (some g)) : a.grownBy c (some g) :=
  ⟨k.os.trans h.os, k.tape.trans h.tape, k.output.trans h.output, Nat.le_trans h.size k.size, fun i hi hn => (k.block i (Nat.lt_of_lt_of_le hi h.size) hn).trans (h.block i hi hn)⟩
theorem grownN_self (w : World) (r : Option Nat) : w.grownBy w r := ⟨rfl, rfl, rfl, Nat.le_refl _, fun _ _ _ => rfl⟩
end
/-- What the walk is told of a slice of numbers that came in. -/
def IsNums (w : World) (a : Option Addr) (len : Nat) (zs : List Int) : Prop :=
  len ≤ maxLen ∧ zs.length = len ∧ (len = 0 ∨ ∃ b off : Nat, a = some ⟨b, off, none⟩ ∧ b < w.heap.size ∧ ∀ j, j < len → w.cell? ⟨b, off + j, none⟩ = some (.int .i64 (zs.getD j 0)))
theorem IsNums.below {w w' : World} {a : Option Addr} {len : Nat} {zs : List Int} (h : IsNums w a len zs) (hb : Below w.heap.size w w') : IsNums w' a len zs := by
  obtain ⟨h1, h2, h4 | ⟨b, off, h4, h5, h6⟩⟩ := h
  · exact ⟨h1, h2, .inl h4⟩
  · exact ⟨h1, h2, .inr ⟨b, off, h4, Nat.lt_of_lt_of_le h5 hb.size, fun j hj => (hb.cell (p := ⟨b, off + j, none⟩) h5).trans (h6 j hj)⟩⟩
def upN (xs ys : List Int) (k : Nat) : List Int := xs.take k ++ ys.drop k
theorem upN_set (xs ys : List Int) (k : Nat) (hx : k < xs.length) (hy : k < ys.length) : (upN xs ys k).set k (xs.getD k 0) = upN xs ys (k + 1) := by
  unfold upN
  have hl : (xs.take k).length = k := by rw [List.length_take]; omega
  rw [List.set_append_right _ _ (by omega), hl, Nat.sub_self, List.take_succ_eq_append_getElem hx, List.append_assoc]
  congr 1
  rw [List.drop_eq_getElem_cons hy, List.getD_eq_getElem?_getD, List.getElem?_eq_getElem hx]; rfl
theorem made_zero1 (n : Nat) : (madeCells (Value.int .i64 0).cells n).toList = ints (List.replicate n 0) := by
  have e : (Value.int .i64 0).cells = #[Value.int .i64 0] := rfl
  rw [e]
  apply List.ext_getElem?
  intro j
  unfold madeCells ints
  by_cases hj : j < n
  · simp [hj, Nat.mod_one]
  · simp [hj]
theorem infoN : (Try.prog.info? 3).map (fun i => (i.zero, i.size, i.bytes)) = some (some (.int .i64 0), 1, 8) := by kernel_rfl
theorem infoN_parts {t : TypeId} {z : Value} {m bytes : Nat} (h : (Try.prog.info? t).map (fun i => (i.zero, i.size, i.bytes)) = some (some z, m, bytes)) : ∃ i, Try.prog.info? t = some i ∧ i.zero = some z ∧ i.size = m ∧ i.bytes = bytes := by
  cases hi : Try.prog.info? t with
  | none => rw [hi] at h; cases h
  | some i =>
    rw [hi] at h
    have h := Option.some.inj h
    simp only [Prod.mk.injEq] at h
    exact ⟨i, rfl, h.1, h.2.1, h.2.2⟩

set_option maxHeartbeats 1600000 in
theorem eqIntS_same (v1 v2 : Value) (b1 b2 n : Nat) (fs : List Int) (w : World) (hn : n ≤ 1048576) (h1 : Nu w b1 v1 n fs) (h2 : Nu w b2 v2 n fs) :
    Calls Try.prog 13 #[v1, v2] w fun e w' => e = .returned (.bool true) ∧ Kept w w' := by
  cases n with
  | zero =>
    obtain ⟨a1, c1, rfl⟩ := h1.shape
    obtain ⟨a2, c2, rfl⟩ := h2.shape
    clear h1 h2
    go_enter Try.func13, Try.ntmps13
    go_wp2_with fail
    go_loop [5] (fun i => i = .int .i64 0) (fun _ => 0)
    case atStart => rfl
    case round =>
      obtain rfl := hrel
      go_wp2_with fail
      go_ret
      exact ⟨rfl, kept_refl _⟩
  | succ n =>
    obtain ⟨g1, c1, rfl, _, _⟩ := h1.form (by omega)
    obtain ⟨g2, c2, rfl, _, _⟩ := h2.form (by omega)
    go_enter Try.func13, Try.ntmps13
    go_wp2_with fail
    go_loopw [5] (fun z wr => ∃ k : Nat, k ≤ n + 1 ∧ z = .int .i64 k ∧ Hid (Nu wr b1 (.slice (some ⟨g1, 0, none⟩) (n + 1) c1) (n + 1) fs) ∧ Hid (Nu wr b2 (.slice (some ⟨g2, 0, none⟩) (n + 1) c2) (n + 1) fs) ∧ Hid (Kept w wr)) (fun z _ => n + 1 - (intOf z).toNat)
    case atStart => exact ⟨0, by omega, rfl, Lib.hid h1, Lib.hid h2, Lib.hid (kept_refl _)⟩
    case round =>
      obtain ⟨k, hk, rfl, G1, G2, GB⟩ := hrel
      by_cases h : k < n + 1
      · have hki : (k : Int) < (n : Int) + 1 := by omega
        have hk0 : (0 : Int) ≤ (k : Int) := by omega
        obtain ⟨x, hx⟩ : ∃ x, fs.getD k 0 = x := ⟨_, rfl⟩
        go_wp2_with fail
        refine wp_region_held_drew (S := fun w' => Nu w' b1 (.slice (some ⟨g1, 0, none⟩) (n + 1) c1) (n + 1) fs ∧ Nu w' b2 (.slice (some ⟨g2, 0, none⟩) (n + 1) c2) (n + 1) fs ∧ Kept w w') (by kernel_rfl) ?_ (fun hHeld => ?_)
        · exact ⟨G1.out.drewN 1, G2.out.drewN 1, GB.out.drewN 1⟩
        (refine wpAnyH_take (i := 0) (v := ?_) rfl (by kernel_rfl) (by kernel_rfl) (by kernel_rfl) (fun _ _ _ h => h) (Or.inl ⟨by rfl, ?_⟩) hHeld ?_; rotate_left; (· (intro w' hSw; go_simp; try with_reducible rfl)); (try simp only [List.getElem_toArray, List.getElem_cons_zero, List.getElem_cons_succ, Act.put, List.setIfInBounds_toArray, List.set_cons_zero, List.set_cons_succ])); (refine wpAnyH_take (i := 1) (v := ?_) rfl (by kernel_rfl) (by kernel_rfl) (by kernel_rfl) (fun _ _ _ h => h) (Or.inl ⟨by rfl, ?_⟩) hHeld ?_; rotate_left; (· (intro w' hSw; go_simp; try with_reducible rfl)); (try simp only [List.getElem_toArray, List.getElem_cons_zero, List.getElem_cons_succ, Act.put, List.setIfInBounds_toArray, List.set_cons_zero, List.set_cons_succ])); (refine wpAnyH_take (i := 2) (v := ?_) rfl (by kernel_rfl) (by kernel_rfl) (by kernel_rfl) (fun _ _ _ h => h) (Or.inl ⟨by rfl, ?_⟩) hHeld ?_; rotate_left; (· (intro w' hSw; go_simp; try with_reducible rfl)); (try simp only [List.getElem_toArray, List.getElem_cons_zero, List.getElem_cons_succ, Act.put, List.setIfInBounds_toArray, List.set_cons_zero, List.set_cons_succ])); (refine wpAnyH_take (i := 4) (v := ?_) rfl (by kernel_rfl) (by kernel_rfl) (by kernel_rfl) (fun _ _ _ h => h) (Or.inl ⟨by rfl, ?_⟩) hHeld ?_; rotate_left; (· (intro w' hSw; go_simp; try with_reducible rfl)); (try simp only [List.getElem_toArray, List.getElem_cons_zero, List.getElem_cons_succ, Act.put, List.setIfInBounds_toArray, List.set_cons_zero, List.set_cons_succ])); (refine wpAnyH_take (i := 5) (v := ?_) rfl (by kernel_rfl) (by kernel_rfl) (by kernel_rfl) (fun _ _ _ h => h) (Or.inl ⟨by rfl, ?_⟩) hHeld ?_; rotate_left; (· (intro w' hSw; go_simp; try with_reducible rfl)); (try simp only [List.getElem_toArray, List.getElem_cons_zero, List.getElem_cons_succ, Act.put, List.setIfInBounds_toArray, List.set_cons_zero, List.set_cons_succ])); (refine wpAnyH_take (i := 6) (v := ?_) rfl (by kernel_rfl) (by kernel_rfl) (by kernel_rfl) (fun _ _ _ h => h) (Or.inl ⟨by rfl, ?_⟩) hHeld ?_; rotate_left; (· (intro w' hSw; go_simp; try with_reducible rfl)); (try simp only [List.getElem_toArray, List.getElem_cons_zero, List.getElem_cons_succ, Act.put, List.setIfInBounds_toArray, List.set_cons_zero, List.set_cons_succ]))
        (refine wpAnyH_take (i := 3) (v := .int .i64 x) rfl (by kernel_rfl) (by kernel_rfl) (by kernel_rfl) (fun _ _ _ h => h) (Or.inl ⟨by rfl, ?_⟩) hHeld ?_; (· (intro w' hSw; have q := hSw.1.cellX h hx; clear hSw; go_simp; try with_reducible rfl)); (try simp only [List.getElem_toArray, List.getElem_cons_zero, List.getElem_cons_succ, Act.put, List.setIfInBounds_toArray, List.set_cons_zero, List.set_cons_succ]))
        (refine wpAnyH_take (i := 7) (v := .int .i64 x) rfl (by kernel_rfl) (by kernel_rfl) (by kernel_rfl) (fun _ _ _ h => h) (Or.inl ⟨by rfl, ?_⟩) hHeld ?_; (· (intro w' hSw; have q := hSw.2.1.cellX h hx; clear hSw; go_simp; try with_reducible rfl)); (try simp only [List.getElem_toArray, List.getElem_cons_zero, List.getElem_cons_succ, Act.put, List.setIfInBounds_toArray, List.set_cons_zero, List.set_cons_succ]))
        (refine wpAnyH_take (i := 8) (v := ?_) rfl (by kernel_rfl) (by kernel_rfl) (by kernel_rfl) (fun _ _ _ h => h) (Or.inl ⟨by rfl, ?_⟩) hHeld ?_; rotate_left; (· (intro w' hSw; go_simp; try with_reducible rfl)); (try simp only [List.getElem_toArray, List.getElem_cons_zero, List.getElem_cons_succ, Act.put, List.setIfInBounds_toArray, List.set_cons_zero, List.set_cons_succ]))
        refine wpAnyH_done (by kernel_rfl) ?_ _
        have G5 := Lib.hid hHeld.1
        have G6 := Lib.hid hHeld.2.1
        have GB3 := Lib.hid hHeld.2.2
        clear hHeld G1 G2 GB
        go_wp2_with fail
        go_roundw
        case rel => exact ⟨k + 1, by omega, by go_num, G5, G6, GB3⟩
        case measure => simp [intOf]; omega
      · obtain rfl : k = n + 1 := by omega
        go_wp2_with fail
        go_ret
        exact ⟨rfl, GB.out⟩

set_option maxHeartbeats 1600000 in
theorem markIntS_any (b : Nat) (v : Value) (n K : Nat) (fs : List Int) (w : World) (hn : n ≤ 1048576) (hK : K ≤ 1000) (h : Nu w b v n fs) :
    Calls Try.prog 14 #[v, .int .i64 (K : Int)] w fun e w' => e = .returned (.int .i64 ((K + n : Nat) : Int)) ∧ Nu w' b v n (markF K n fs) ∧ w.grownBy w' v.ownBlock := by
  cases n with
  | zero =>
    obtain ⟨a, c, hv⟩ := h.shape
    have HH := Lib.hid h
    clear h
    subst hv
    go_enter Try.func14, Try.ntmps14
    go_wp2_with fail
    go_loop [1, 5] (fun q i => i = .int .i64 0 ∧ q = .int .i64 (K : Int)) (fun _ _ => 0)
    case atStart => exact ⟨rfl, rfl⟩
    case round =>
      obtain ⟨rfl, rfl⟩ := hrel
      go_wp2_with fail
      go_ret
      refine ⟨rfl, ?_, grownN_self _ _⟩
      rw [show markF K 0 fs = fs from markF_zero K fs]; exact HH.out
  | succ n =>
    obtain ⟨g, c, rfl, _, _⟩ := h.form (by omega)
    have HL := Lib.hid h.flat
    have HH := Lib.hid h
    clear h
    go_enter Try.func14, Try.ntmps14
    go_wp2_with fail
    go_loopg [1, 5] (n + 1) (fun gk q i wr => ∃ p : Nat, gk = n + 1 - p ∧ p ≤ n + 1 ∧ i = .int .i64 p ∧ q = .int .i64 ((K + p : Nat) : Int) ∧ Hid (Nu wr b (.slice (some ⟨g, 0, none⟩) (n + 1) c) (n + 1) (markF K p fs)) ∧ Hid (w.grownBy wr (some g)))
    case atStart => exact ⟨0, rfl, by omega, rfl, by simp, Lib.hid (by rw [markF_zero]; exact HH.out), Lib.hid (grownN_self _ _)⟩
    case round =>
      obtain ⟨p, rfl, hp, rfl, rfl, GP, GG⟩ := hrel
      by_cases hlt : p < n + 1
      · have hpi : (p : Int) < (n : Int) + 1 := by omega
        obtain ⟨z0, hz0⟩ : ∃ z : Int, ((K + p : Nat) : Int) = z := ⟨_, rfl⟩
        have c0 := GP.out.cell p hlt
        have f0 := GP.out.freeAt p
        obtain ⟨T1, g1⟩ := GP.out.storedAs p z0 (fs' := markF K (p + 1) fs) (by rw [← hz0]; exact markF_set K _ fs (by rw [HL.out]; omega))
        have hz1 : 0 ≤ z0 := by omega
        have hz2 : z0 ≤ 1049577 := by omega
        have HZ0 := Lib.hid hz0
        rw [hz0]
        have S1 := Lib.hid T1
        have S2 := Lib.hid (grownN_trans GG.out g1)
        clear T1 g1 GP GG
        generalize (markF K p fs).getD p 0 = y0 at *
        clear hz0
        go_wp2_with fail
        go_roundg (n + 1 - (p + 1))
        case rel => exact ⟨p + 1, rfl, by omega, by go_num, by have := HZ0.out; go_num, S1, S2⟩
        case measure => omega
      · obtain rfl : p = n + 1 := by omega
        go_wp2_with fail
        go_ret
        exact ⟨rfl, GP.out, GG.out⟩
end Go.Proofs.Ytpbfdjiglacbbab.base
