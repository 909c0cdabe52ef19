/-
  What a pour does to two tubes, in plain mathematics.
-/
/-
  The model's pour, walked.
-/
import Derived.Test.YtalngdccjoafhabRackCopyZ
import Derived.Test.YtalngdccjoafhabCanZ

section
namespace Go.Proofs.Ytalngdccjoafhab.base
set_option linter.unusedVariables false
set_option linter.unusedSimpArgs false

def fromK (s : List Int) : Nat → List Int
  | 0 => s
  | k + 1 => takeT (fromK s k)
def toK (t : List Int) (c : Int) : Nat → List Int
  | 0 => t
  | k + 1 => putT (toK t c k) c
def fromOK (s : List Int) : Bool := (List.range 5).all fun k => !decide (k ≤ lay s) || (lay (fromK s k) == lay s - k && vT (fromK s k) && (fromK s k).length == 4)
def toOK (t : List Int) : Bool := (List.range 5).all fun k => !decide (k + lay t ≤ 4) || [1, 2, 3, 4, 5].all fun c => lay (toK t c k) == lay t + k && vT (toK t c k) && (toK t c k).length == 4
theorem fromOK_all : allT.all fromOK = true := by decide +kernel
theorem toOK_all : allT.all toOK = true := by decide +kernel
theorem fromK_facts {s : List Int} (h4 : s.length = 4) (hv : vT s = true) (k : Nat) (hk : k ≤ lay s) : lay (fromK s k) = lay s - k ∧ vT (fromK s k) = true ∧ (fromK s k).length = 4 := by
  have h := forT fromOK fromOK_all h4 hv
  have hl := (tubeFacts h4 hv).lay4
  have := List.all_eq_true.1 h k (by simp; omega)
  simp only [hk, decide_true, Bool.not_true, Bool.false_or, Bool.and_eq_true, beq_iff_eq] at this
  exact ⟨this.1.1, this.1.2, this.2⟩
theorem toK_facts {t : List Int} (h4 : t.length = 4) (hv : vT t = true) (c : Int) (hc : 1 ≤ c ∧ c ≤ 5) (k : Nat) (hk : k + lay t ≤ 4) : lay (toK t c k) = lay t + k ∧ vT (toK t c k) = true ∧ (toK t c k).length = 4 := by
  have h := forT toOK toOK_all h4 hv
  have := List.all_eq_true.1 h k (by simp; omega)
  simp only [hk, decide_true, Bool.not_true, Bool.false_or] at this
  have h2 := List.all_eq_true.1 this c (by
    have : c = 1 ∨ c = 2 ∨ c = 3 ∨ c = 4 ∨ c = 5 := by omega
    rcases this with rfl | rfl | rfl | rfl | rfl <;> decide)
  simp only [Bool.and_eq_true, beq_iff_eq] at h2
  exact ⟨h2.1.1, h2.1.2, h2.2⟩

def two (ns : List Int) (p q : Nat) (A B : List Int) : List Int := setTub (setTub ns p A) q B
section
variable {ns A B : List Int} {p q : Nat}
theorem two_len (h : ns.length = 24) (hp : p < 6) (hq : q < 6) (hA : A.length = 4) (hB : B.length = 4) : (two ns p q A B).length = 24 := setTub_len _ _ _ (setTub_len ns p A h hp hA) hq hB
theorem two_p (h : ns.length = 24) (hp : p < 6) (hq : q < 6) (hA : A.length = 4) (hB : B.length = 4) (hne : p ≠ q) : tub (two ns p q A B) p = A := by
  unfold two
  rw [tub_setTub_other _ q p B (setTub_len ns p A h hp hA) hq hp hB (Ne.symm hne), tub_setTub ns p A h hp hA]
theorem two_q (h : ns.length = 24) (hp : p < 6) (hq : q < 6) (hA : A.length = 4) (hB : B.length = 4) : tub (two ns p q A B) q = B := by
  unfold two; exact tub_setTub _ q B (setTub_len ns p A h hp hA) hq hB
theorem two_o (h : ns.length = 24) (hp : p < 6) (hq : q < 6) (hA : A.length = 4) (hB : B.length = 4) (o : Nat) (ho : o < 6) (h1 : o ≠ p) (h2 : o ≠ q) : tub (two ns p q A B) o = tub ns o := by
  unfold two
  rw [tub_setTub_other _ q o B (setTub_len ns p A h hp hA) hq ho hB (Ne.symm h2), tub_setTub_other ns p o A h hp ho hA (Ne.symm h1)]
theorem two_self (h : ns.length = 24) (hp : p < 6) (hq : q < 6) (hne : p ≠ q) : two ns p q (tub ns p) (tub ns q) = ns := by
  have a := tub_len ns p h hp
  have b := tub_len ns q h hq
  refine rack_ext (two_len h hp hq a b) h (fun o ho => ?_)
  by_cases e1 : o = p
  · subst e1; exact two_p h ho hq a b hne
  · by_cases e2 : o = q
    · subst e2; exact two_q h hp ho a b
    · exact two_o h hp hq a b o ho e1 e2
theorem two_set_p (h : ns.length = 24) (hp : p < 6) (hq : q < 6) (hA : A.length = 4) (hB : B.length = 4) (hne : p ≠ q) (k : Nat) (hk : k < 4) (z : Int) : (two ns p q A B).set (p * 4 + k) z = two ns p q (A.set k z) B := by
  have hA' : (A.set k z).length = 4 := by rw [List.length_set]; exact hA
  rw [set_tub _ p k z (two_len h hp hq hA hB) hp hk, two_p h hp hq hA hB hne]
  refine rack_ext (setTub_len _ _ _ (two_len h hp hq hA hB) hp hA') (two_len h hp hq hA' hB) (fun o ho => ?_)
  by_cases e1 : o = p
  · subst e1; rw [tub_setTub _ o _ (two_len h ho hq hA hB) ho hA', two_p h ho hq hA' hB hne]
  · rw [tub_setTub_other _ p o _ (two_len h hp hq hA hB) hp ho hA' (Ne.symm e1)]
    by_cases e2 : o = q
    · subst e2; rw [two_q h hp ho hA hB, two_q h hp ho hA' hB]
    · rw [two_o h hp hq hA hB o ho e1 e2, two_o h hp hq hA' hB o ho e1 e2]
theorem two_set_q (h : ns.length = 24) (hp : p < 6) (hq : q < 6) (hA : A.length = 4) (hB : B.length = 4) (hne : p ≠ q) (k : Nat) (hk : k < 4) (z : Int) : (two ns p q A B).set (q * 4 + k) z = two ns p q A (B.set k z) := by
  have hB' : (B.set k z).length = 4 := by rw [List.length_set]; exact hB
  rw [set_tub _ q k z (two_len h hp hq hA hB) hq hk, two_q h hp hq hA hB]
  refine rack_ext (setTub_len _ _ _ (two_len h hp hq hA hB) hq hB') (two_len h hp hq hA hB') (fun o ho => ?_)
  by_cases e1 : o = q
  · subst e1; rw [tub_setTub _ o _ (two_len h hp ho hA hB) ho hB', two_q h hp ho hA hB']
  · rw [tub_setTub_other _ q o _ (two_len h hp hq hA hB) hq ho hB' (Ne.symm e1)]
    by_cases e2 : o = p
    · subst e2; rw [two_p h ho hq hA hB hne, two_p h ho hq hA hB' hne]
    · rw [two_o h hp hq hA hB o ho e2 e1, two_o h hp hq hA hB' o ho e2 e1]
end

def pourOk (ns : List Int) (i j : Int) : Bool := twoOk ns i j && decide (0 < canN (tub ns i.toNat) (tub ns j.toNat))
def pourN (ns : List Int) (i j : Int) : Nat := canN (tub ns i.toNat) (tub ns j.toNat)
def pourT (ns : List Int) (p q : Nat) : List Int := two ns p q (fromK (tub ns p) (canN (tub ns p) (tub ns q))) (toK (tub ns q) (topC (tub ns p)) (canN (tub ns p) (tub ns q)))
theorem canN_le {s t : List Int} (hs : s.length = 4) (ht : t.length = 4) (vs : vT s = true) (vt : vT t = true) : canN s t ≤ lay s ∧ canN s t + lay t ≤ 4 ∧ (0 < canN s t → 1 ≤ topC s ∧ topC s ≤ 5) := by
  have FS := tubeFacts hs vs
  have FT := tubeFacts ht vt
  have h1 := FS.topN
  have h2 := FT.lay4
  have h3 := FS.noneC
  have h4 := FS.c0
  have h5 := FS.c5
  unfold canN
  split
  · omega
  · refine ⟨by omega, by omega, fun h => ?_⟩
    have : topN s ≠ 0 := by omega
    have : topC s ≠ 0 := fun e => this (h3.1 e)
    omega
end Go.Proofs.Ytalngdccjoafhab.base
end

section
namespace Go.Proofs.Ytalngdccjoafhab.base
open Go.ChangeShapes Go.WideShapes Go.ChangeAt Go.RowKit
set_option linter.unusedVariables false
set_option linter.unusedSimpArgs false

theorem l1Least_any (a b : Int) (w : World) :
    Calls Try.prog 63 #[.int .i64 a, .int .i64 b] w fun e w' => e = .returned (.int .i64 (min a b)) ∧ w = w' := by
  by_cases h : a < b
  · have e : min a b = a := by omega
    rw [e]
    clear e
    go_enter Try.func63, Try.ntmps63
    go_wp2_with fail
    go_ret
    exact ⟨rfl, rfl⟩
  · have e : min a b = b := by omega
    have q : decide (a < b) = false := by simpa using h
    rw [e]
    clear e h
    go_enter Try.func63, Try.ntmps63
    go_wp2_with fail
    go_ret
    exact ⟨rfl, rfl⟩

set_option maxHeartbeats 3200000 in
set_option maxRecDepth 100000 in
theorem l2Pour_any (ns : List Int) (p q : Nat) (w : World) (h24 : ns.length = 24) (hv : vR ns = true) (hp : p < 6) (hq : q < 6) (hne : p ≠ q) (hpos : 0 < canN (tub ns p) (tub ns q)) :
    Calls Try.prog 31 #[row ns, .int .i64 (p : Nat), .int .i64 (q : Nat)] w fun e w' => e = .returned (.tuple #[.agg (ints (pourT ns p q)).toArray, .int .i64 (canN (tub ns p) (tub ns q) : Nat)]) ∧ Kept w w' := by
  have HB := Lib.hid (((kept_refl w).alloc (.cells (ints ns).toArray 30)).alloc (.cells #[.int .i64 0, .int .i64 0, .int .i64 0, .int .i64 0, .int .i64 0, .int .i64 0, .int .i64 0, .int .i64 0, .int .i64 0, .int .i64 0, .int .i64 0, .int .i64 0, .int .i64 0, .int .i64 0, .int .i64 0, .int .i64 0, .int .i64 0, .int .i64 0, .int .i64 0, .int .i64 0, .int .i64 0, .int .i64 0, .int .i64 0, .int .i64 0] 30))
  have H := (Has.box w 30 h24 (by omega)).alloc (.cells #[.int .i64 0, .int .i64 0, .int .i64 0, .int .i64 0, .int .i64 0, .int .i64 0, .int .i64 0, .int .i64 0, .int .i64 0, .int .i64 0, .int .i64 0, .int .i64 0, .int .i64 0, .int .i64 0, .int .i64 0, .int .i64 0, .int .i64 0, .int .i64 0, .int .i64 0, .int .i64 0, .int .i64 0, .int .i64 0, .int .i64 0, .int .i64 0] 30)
  have Z := (Has.zero24 (w.alloc (.cells (ints ns).toArray 30)) 30).at (size1 _ _)
  have sp := tub_len ns p h24 hp
  have sq := tub_len ns q h24 hq
  have vp := vR_tub hv p hp
  have vq := vR_tub hv q hq
  have hC := canN_le sp sq vp vq
  have hM := Lib.hid (show canN (tub ns p) (tub ns q) = min (topN (tub ns p)) (4 - lay (tub ns q)) by
    unfold canN; rw [if_neg]; intro hh
    have : canN (tub ns p) (tub ns q) = 0 := by unfold canN; rw [if_pos hh]
    omega)
  have FP := Lib.hid (fun k hk => fromK_facts sp vp k hk)
  have FQ := Lib.hid (fun k hk => toK_facts sq vq (topC (tub ns p)) (hC.2.2 hpos) k hk)
  have hTP := Lib.hid (tubeFacts sp vp)
  have hTQ := Lib.hid (tubeFacts sq vq)
  have hpi : (p : Int) < 6 := by omega
  have hp0 : (0 : Int) ≤ (p : Int) := by omega
  have hqi : (q : Int) < 6 := by omega
  have hq0 : (0 : Int) ≤ (q : Int) := by omega
  have l1 : (ints (tub ns p)).length = 4 := by rw [ints_len]; exact sp
  have l2 : (ints (tub ns q)).length = 4 := by rw [ints_len]; exact sq
  have hi1 : (Try.prog.info? 22).map (·.size) = some (ints (tub ns p)).length := by rw [l1]; kernel_rfl
  have hi2 : (Try.prog.info? 22).map (·.size) = some (ints (tub ns q)).length := by rw [l2]; kernel_rfl
  rw [row_ints]
  go_enter Try.func31, Try.ntmps31
  go_wp2_with (refine load_tub rfl 22 _ rfl _ (p) _ rfl ?_ ?_ ?_ ?_ _ Try.underlying22 rfl ?_ ?_; (· (first | rfl | omega)); rotate_left; (· (repeat (first | (with_reducible assumption) | ((with_reducible refine Has.box _ _ ?_ ?_) <;> (first | assumption | decide)) | (with_reducible refine Has.alloc ?_ _) | ((with_reducible refine Has.putOther ?_ _ _ ?_); rotate_left; omega; skip) | ((with_reducible refine Has.below ?_ ?_); rotate_left; assumption)))); (· omega); (· kernel_rfl))
  refine (l2Top_any (tub ns p) _ sp vp).mono ?_
  rintro e w1 ⟨rfl, b1⟩
  have H1 := H.below b1
  have Z1 := Z.below b1
  have HB1 := HB.out.call b1
  clear H Z HB b1
  go_wp2_with fail
  refine wp_region_held_drew (S := fun w' => Has w' w.heap.size ns 24 ∧ Has w' (w.heap.size + 1) z24 24 ∧ Kept w w') (by kernel_rfl) ⟨H1.drew, Z1.drew, HB1.drewN 1⟩ (fun hHeld => ?_)
  clear H1 Z1 HB1
  (refine wpAnyH_take (i := 0) (v := ?_) rfl (by kernel_rfl) (by kernel_rfl) (by kernel_rfl) (fun _ _ _ h => h) (Or.inl ⟨by rfl, ?_⟩) hHeld ?_; rotate_left; (· (intro w' hSw; go_simp; try with_reducible rfl)); (try simp only [List.getElem_toArray, List.getElem_cons_zero, List.getElem_cons_succ, Act.put, List.setIfInBounds_toArray, List.set_cons_zero, List.set_cons_succ])); (refine wpAnyH_take (i := 1) (v := ?_) rfl (by kernel_rfl) (by kernel_rfl) (by kernel_rfl) (fun _ _ _ h => h) (Or.inl ⟨by rfl, ?_⟩) hHeld ?_; rotate_left; (· (intro w' hSw; go_simp; try with_reducible rfl)); (try simp only [List.getElem_toArray, List.getElem_cons_zero, List.getElem_cons_succ, Act.put, List.setIfInBounds_toArray, List.set_cons_zero, List.set_cons_succ])); (refine wpAnyH_take (i := 2) (v := ?_) rfl (by kernel_rfl) (by kernel_rfl) (by kernel_rfl) (fun _ _ _ h => h) (Or.inl ⟨by rfl, ?_⟩) hHeld ?_; rotate_left; (· (intro w' hSw; go_simp; try with_reducible rfl)); (try simp only [List.getElem_toArray, List.getElem_cons_zero, List.getElem_cons_succ, Act.put, List.setIfInBounds_toArray, List.set_cons_zero, List.set_cons_succ])); (refine wpAnyH_take (i := 5) (v := ?_) rfl (by kernel_rfl) (by kernel_rfl) (by kernel_rfl) (fun _ _ _ h => h) (Or.inl ⟨by rfl, ?_⟩) hHeld ?_; rotate_left; (· (intro w' hSw; go_simp; try with_reducible rfl)); (try simp only [List.getElem_toArray, List.getElem_cons_zero, List.getElem_cons_succ, Act.put, List.setIfInBounds_toArray, List.set_cons_zero, List.set_cons_succ])); (refine wpAnyH_take (i := 6) (v := ?_) rfl (by kernel_rfl) (by kernel_rfl) (by kernel_rfl) (fun _ _ _ h => h) (Or.inl ⟨by rfl, ?_⟩) hHeld ?_; rotate_left; (· (intro w' hSw; go_simp; try with_reducible rfl)); (try simp only [List.getElem_toArray, List.getElem_cons_zero, List.getElem_cons_succ, Act.put, List.setIfInBounds_toArray, List.set_cons_zero, List.set_cons_succ])); (refine wpAnyH_take (i := 7) (v := ?_) rfl (by kernel_rfl) (by kernel_rfl) (by kernel_rfl) (fun _ _ _ h => h) (Or.inl ⟨by rfl, ?_⟩) hHeld ?_; rotate_left; (· (intro w' hSw; go_simp; try with_reducible rfl)); (try simp only [List.getElem_toArray, List.getElem_cons_zero, List.getElem_cons_succ, Act.put, List.setIfInBounds_toArray, List.set_cons_zero, List.set_cons_succ]))
  (refine wpAnyH_take (i := 3) (v := _) rfl (by kernel_rfl) (by kernel_rfl) (by kernel_rfl) (fun _ _ _ h => h) (yieldsIf_load_mid (by rfl) 22 _ rfl _ _ rfl (ints (tub ns p)) _ (fun w' hSw => hSw.1.holds.sub (p * 4) 4) Try.underlying22 rfl (hi1)) hHeld ?_; (try simp only [List.getElem_toArray, List.getElem_cons_zero, List.getElem_cons_succ, Act.put, List.setIfInBounds_toArray, List.set_cons_zero, List.set_cons_succ]))
  (refine wpAnyH_take (i := 8) (v := _) rfl (by kernel_rfl) (by kernel_rfl) (by kernel_rfl) (fun _ _ _ h => h) (yieldsIf_load_mid (by rfl) 22 _ rfl _ _ rfl (ints (tub ns q)) _ (fun w' hSw => hSw.1.holds.sub (q * 4) 4) Try.underlying22 rfl (hi2)) hHeld ?_; (try simp only [List.getElem_toArray, List.getElem_cons_zero, List.getElem_cons_succ, Act.put, List.setIfInBounds_toArray, List.set_cons_zero, List.set_cons_succ]))
  (refine wpAnyH_ready (rs := [4]) (by kernel_rfl) (by simp) ?_; refine AllReadyH.cons (o := _) rfl (fun K hK => ?_) AllReadyH.nil; (simp only [List.getElem_toArray, List.getElem_cons_zero, List.getElem_cons_succ, Region.wanted, if_true]))
  go_simp
  refine (l2Many_any (tub ns p) _ sp vp).mono ?_
  rintro e w2 ⟨rfl, b2⟩
  have G := And.intro (hHeld.1.below b2) (And.intro (hHeld.2.1.below b2) (hHeld.2.2.call b2))
  dsimp only
  (try simp only [List.getElem_toArray, List.getElem_cons_zero, List.getElem_cons_succ, Act.put, List.setIfInBounds_toArray, List.set_cons_zero, List.set_cons_succ])
  refine hK.out _ _ G (fun hHeld => ?_)
  clear hK K G b2
  (refine wpAnyH_ready (rs := [9]) (by kernel_rfl) (by simp) ?_; refine AllReadyH.cons (o := _) rfl (fun K hK => ?_) AllReadyH.nil; (simp only [List.getElem_toArray, List.getElem_cons_zero, List.getElem_cons_succ, Region.wanted, if_true]))
  go_simp
  refine (l2Many_any (tub ns q) _ sq vq).mono ?_
  rintro e w3 ⟨rfl, b3⟩
  have G := And.intro (hHeld.1.below b3) (And.intro (hHeld.2.1.below b3) (hHeld.2.2.call b3))
  dsimp only
  (try simp only [List.getElem_toArray, List.getElem_cons_zero, List.getElem_cons_succ, Act.put, List.setIfInBounds_toArray, List.set_cons_zero, List.set_cons_succ])
  refine hK.out _ _ G (fun hHeld => ?_)
  clear hK K G b3
  (refine wpAnyH_take (i := 10) (v := ?_) rfl (by kernel_rfl) (by kernel_rfl) (by kernel_rfl) (fun _ _ _ h => h) (Or.inl ⟨by rfl, ?_⟩) hHeld ?_; rotate_left; (· (intro w' hSw; go_simp; try with_reducible rfl)); (try simp only [List.getElem_toArray, List.getElem_cons_zero, List.getElem_cons_succ, Act.put, List.setIfInBounds_toArray, List.set_cons_zero, List.set_cons_succ])); (refine wpAnyH_take (i := 11) (v := ?_) rfl (by kernel_rfl) (by kernel_rfl) (by kernel_rfl) (fun _ _ _ h => h) (Or.inl ⟨by rfl, ?_⟩) hHeld ?_; rotate_left; (· (intro w' hSw; go_simp; try with_reducible rfl)); (try simp only [List.getElem_toArray, List.getElem_cons_zero, List.getElem_cons_succ, Act.put, List.setIfInBounds_toArray, List.set_cons_zero, List.set_cons_succ]))
  refine wpAnyH_done (by kernel_rfl) ?_ _
  have H3 := hHeld.1
  have Z3 := hHeld.2.1
  have HB3 := Lib.hid hHeld.2.2
  clear hHeld hi1 hi2 l1 l2
  have hl4 := hTQ.out.lay4
  go_wp2_with fail
  refine (l1Least_any _ _ _).mono ?_
  rintro e w' ⟨rfl, rfl⟩
  have em : min ((topN (tub ns p) : Nat) : Int) (4 - ((lay (tub ns q) : Nat) : Int)) = ((canN (tub ns p) (tub ns q) : Nat) : Int) := by rw [hM.out]; omega
  rw [em]
  clear em
  have hs := two_self h24 hp hq hne
  have H4 : Has w3 w.heap.size (two ns p q (fromK (tub ns p) 0) (toK (tub ns q) (topC (tub ns p)) 0)) 24 := by
    show Has w3 w.heap.size (two ns p q (tub ns p) (tub ns q)) 24
    rw [hs]; exact H3
  have HC := Lib.hid hC
  have HL := Lib.hid h24
  have HN := Lib.hid hne
  clear hs H3 hC hpos hne hl4 h24
  generalize hm : canN (tub ns p) (tub ns q) = m at *
  have HM := Lib.hid hm
  clear hm
  have hm4 : m ≤ 4 := by have := HC.out; have := hTP.out.lay4; omega
  go_wp2_with fail
  go_loopw [13] (fun z wr => ∃ k : Nat, k ≤ m ∧ z = .int .i64 k ∧ Has wr w.heap.size (two ns p q (fromK (tub ns p) k) (toK (tub ns q) (topC (tub ns p)) k)) 24 ∧ Has wr (w.heap.size + 1) z24 24 ∧ Hid (Kept w wr)) (fun z _ => m - (intOf z).toNat)
  case atStart => exact ⟨0, by omega, rfl, H4, Z3, HB3⟩
  case round =>
    obtain ⟨k, hk, rfl, G1, G2, GB⟩ := hrel
    by_cases h : k < m
    · have hki : (k : Int) < (m : Int) := by omega
      have fp := FP.out k (by have := HC.out; omega)
      have fq := FQ.out k (by have := HC.out; omega)
      have hlp := hTP.out.lay4
      have hkl : k < lay (tub ns p) := by have := HC.out; omega
      have hkq : k + lay (tub ns q) < 4 := by have := HC.out; omega
      have i1 : ((lay (tub ns p) : Int) - 1 - (k : Int)).toNat = lay (tub ns p) - 1 - k := by omega
      have i2 : ((lay (tub ns q) : Int) + (k : Int)).toNat = lay (tub ns q) + k := by omega
      have j1 : (0 : Int) ≤ (lay (tub ns p) : Int) - 1 - (k : Int) := by omega
      have j2 : (lay (tub ns p) : Int) - 1 - (k : Int) < 4 := by omega
      have j3 : (lay (tub ns q) : Int) + (k : Int) < 4 := by omega
      have j4 : (0 : Int) ≤ (lay (tub ns q) : Int) + (k : Int) := by omega
      have c1 := G1.cell (p * 4 + (lay (tub ns p) - 1 - k)) (by omega)
      have f1 := G1.free (p * 4 + (lay (tub ns p) - 1 - k)) (by omega)
      have G3 := G1.set (p * 4 + (lay (tub ns p) - 1 - k)) 0 (by omega)
      rw [two_set_p HL.out hp hq fp.2.2 fq.2.2 HN.out _ (by omega)] at G3
      have e3 : (fromK (tub ns p) k).set (lay (tub ns p) - 1 - k) 0 = fromK (tub ns p) (k + 1) := by
        show _ = takeT (fromK (tub ns p) k)
        unfold takeT; rw [fp.1]; congr 1; omega
      rw [e3] at G3
      have fp3 := (FP.out (k + 1) (by omega)).2.2
      have c2 := G3.cell (q * 4 + (lay (tub ns q) + k)) (by omega)
      have f2 := G3.free (q * 4 + (lay (tub ns q) + k)) (by omega)
      have G4 := G3.set (q * 4 + (lay (tub ns q) + k)) (topC (tub ns p)) (by omega)
      rw [two_set_q HL.out hp hq fp3 fq.2.2 HN.out _ (by omega)] at G4
      have e4 : (toK (tub ns q) (topC (tub ns p)) k).set (lay (tub ns q) + k) (topC (tub ns p)) = toK (tub ns q) (topC (tub ns p)) (k + 1) := by
        show _ = putT (toK (tub ns q) (topC (tub ns p)) k) (topC (tub ns p))
        unfold putT; rw [fq.1]
      rw [e4] at G4
      have G5 := Lib.hid G4
      have Y5 := Lib.hid ((G2.setOther (b' := w.heap.size) (p * 4 + (lay (tub ns p) - 1 - k)) (.int .i64 0) (by omega)).setOther (b' := w.heap.size) (q * 4 + (lay (tub ns q) + k)) (.int .i64 (topC (tub ns p))) (by omega))
      have K5 := Lib.hid ((GB.out.set (b := w.heap.size) (Nat.le_refl _) (p * 4 + (lay (tub ns p) - 1 - k)) (.int .i64 0)).set (b := w.heap.size) (Nat.le_refl _) (q * 4 + (lay (tub ns q) + k)) (.int .i64 (topC (tub ns p))))
      clear fp fq e3 e4 fp3 G1 G2 G3 G4 GB
      generalize (two ns p q (fromK (tub ns p) k) (toK (tub ns q) (topC (tub ns p)) k)).getD (p * 4 + (lay (tub ns p) - 1 - k)) 0 = x1 at *
      generalize (two ns p q (fromK (tub ns p) (k + 1)) (toK (tub ns q) (topC (tub ns p)) k)).getD (q * 4 + (lay (tub ns q) + k)) 0 = x2 at *
      go_wp2_with fail
      go_roundw
      case rel => exact ⟨k + 1, by omega, by go_num, G5.out, Y5.out, K5⟩
      case measure => simp [intOf]; omega
    · obtain rfl : k = m := by omega
      have hq1 : decide ((k : Int) < (k : Int)) = false := by simp
      have hl := G1.len
      have S1 := Lib.hid (G2.putAll _ hl)
      have S2 := Lib.hid (GB.out.puts (b := w.heap.size + 1) (by omega) 0 (ints (two ns p q (fromK (tub ns p) k) (toK (tub ns q) (topC (tub ns p)) k))))
      have E := Lib.hid (show pourT ns p q = two ns p q (fromK (tub ns p) k) (toK (tub ns q) (topC (tub ns p)) k) by unfold pourT; rw [HM.out])
      go_wp2_with (first | (refine load_has rfl 30 _ rfl _ rfl ?_ 24 ?_ _ Try.underlying30 rfl ?_ ?_; rotate_left; (· (repeat (first | (with_reducible assumption) | ((with_reducible refine Has.box _ _ ?_ ?_) <;> (first | assumption | decide)) | (with_reducible refine Has.alloc ?_ _) | ((with_reducible refine Has.putOther ?_ _ _ ?_); rotate_left; omega; skip) | ((with_reducible refine Has.below ?_ ?_); rotate_left; assumption)))); (· kernel_rfl)) | (refine store_at rfl 30 _ _ rfl _ _ rfl rfl ?_ 24 ?_ ?_ ?_ ?_; rotate_left; (· (repeat (first | (with_reducible assumption) | ((with_reducible refine Has.box _ _ ?_ ?_) <;> (first | assumption | decide)) | (with_reducible refine Has.alloc ?_ _) | ((with_reducible refine Has.putOther ?_ _ _ ?_); rotate_left; omega; skip) | ((with_reducible refine Has.below ?_ ?_); rotate_left; assumption)))); (· (first | assumption | rfl)); (· kernel_rfl)))
      exact bodyPost_ret (res_has1 rfl _ _ (w.heap.size + 1) _ 24 _ (.int .i64 (k : Nat)) rfl rfl S1.out Try.underlying30 rfl (by kernel_rfl)) rfl ⟨by rw [E.out, HM.out], S2.out⟩

def pourR (ns : List Int) (i j : Int) : List Int := if pourOk ns i j = true then pourT ns i.toNat j.toNat else z24
def pourA (ns : List Int) (i j : Int) : Int := if pourOk ns i j = true then (canN (tub ns i.toNat) (tub ns j.toNat) : Nat) else 0
theorem pourOk_not {ns : List Int} {i j : Int} (h : twoOk ns i j = false) : pourOk ns i j = false := by unfold pourOk; rw [h]; rfl
theorem pourR_len {ns : List Int} (h : ns.length = 24) (i j : Int) : (pourR ns i j).length = 24 := by
  unfold pourR
  by_cases hb : pourOk ns i j = true
  · rw [if_pos hb]
    unfold pourOk at hb
    simp only [Bool.and_eq_true, decide_eq_true_eq] at hb
    obtain ⟨hv, p, q, rfl, rfl, hp, hq, hne⟩ := twoOk_of hb.1
    have hc := hb.2
    simp only [Int.toNat_natCast] at hc ⊢
    have sp := tub_len ns p h hp
    have sq := tub_len ns q h hq
    have vp := vR_tub hv p hp
    have vq := vR_tub hv q hq
    have hC := canN_le sp sq vp vq
    exact two_len h hp hq (fromK_facts sp vp _ hC.1).2.2 (toK_facts sq vq _ (hC.2.2 hc) _ hC.2.1).2.2
  · rw [if_neg hb]; rfl

end Go.Proofs.Ytalngdccjoafhab.base
end
