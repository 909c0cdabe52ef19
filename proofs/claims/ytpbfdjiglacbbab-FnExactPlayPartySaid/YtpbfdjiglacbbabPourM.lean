/-
  What a pour does to two tubes, in plain mathematics.
-/
import Derived.Test.YtpbfdjiglacbbabHold
namespace Go.Proofs.Ytpbfdjiglacbbab.base
set_option linter.unusedVariables false
set_option linter.unusedSimpArgs false

def fromK (s : List Int) : Nat → List Int
  | 0 => s
  | k + 1 => takeT (fromK s k)
def toK (t : List Int) (c : Int) : Nat → List Int
  | 0 => t
  | k + 1 => putT (toK t c k) c
def fromOK (s : List Int) : Bool := (List.range 5).all fun k => !decide (k ≤ lay s) || (lay (fromK s k) == lay s - k && vT (fromK s k) && (fromK s k).length == 4)
def toOK (t : List Int) : Bool := (List.range 5).all fun k => !decide (k + lay t ≤ 4) || [1, 2, 3, 4, 5].all fun c => lay (toK t c k) == lay t + k && vT (toK t c k) && (toK t c k).length == 4
theorem fromOK_all : allT.all fromOK = true := by decide +kernel
theorem toOK_all : allT.all toOK = true := by decide +kernel
theorem fromK_facts {s : List Int} (h4 : s.length = 4) (hv : vT s = true) (k : Nat) (hk : k ≤ lay s) : lay (fromK s k) = lay s - k ∧ vT (fromK s k) = true ∧ (fromK s k).length = 4 := by
  have h := forT fromOK fromOK_all h4 hv
  have hl := (tubeFacts h4 hv).lay4
  have := List.all_eq_true.1 h k (by simp; omega)
  simp only [hk, decide_true, Bool.not_true, Bool.false_or, Bool.and_eq_true, beq_iff_eq] at this
  exact ⟨this.1.1, this.1.2, this.2⟩
theorem toK_facts {t : List Int} (h4 : t.length = 4) (hv : vT t = true) (c : Int) (hc : 1 ≤ c ∧ c ≤ 5) (k : Nat) (hk : k + lay t ≤ 4) : lay (toK t c k) = lay t + k ∧ vT (toK t c k) = true ∧ (toK t c k).length = 4 := by
  have h := forT toOK toOK_all h4 hv
  have := List.all_eq_true.1 h k (by simp; omega)
  simp only [hk, decide_true, Bool.not_true, Bool.false_or] at this
  have h2 := List.all_eq_true.1 this c (by
    have : c = 1 ∨ c = 2 ∨ c = 3 ∨ c = 4 ∨ c = 5 := by omega
    rcases this with rfl | rfl | rfl | rfl | rfl <;> decide)
  simp only [Bool.and_eq_true, beq_iff_eq] at h2
  exact ⟨h2.1.1, h2.1.2, h2.2⟩

def two (ns : List Int) (p q : Nat) (A B : List Int) : List Int := setTub (setTub ns p A) q B
section
variable {ns A B : List Int} {p q : Nat}
theorem two_len (h : ns.length = 24) (hp : p < 6) (hq : q < 6) (hA : A.length = 4) (hB : B.length = 4) : (two ns p q A B).length = 24 := setTub_len _ _ _ (setTub_len ns p A h hp hA) hq hB
theorem two_p (h : ns.length = 24) (hp : p < 6) (hq : q < 6) (hA : A.length = 4) (hB : B.length = 4) (hne : p ≠ q) : tub (two ns p q A B) p = A := by
  unfold two
  rw [tub_setTub_other _ q p B (setTub_len ns p A h hp hA) hq hp hB (Ne.symm hne), tub_setTub ns p A h hp hA]
theorem two_q (h : ns.length = 24) (hp : p < 6) (hq : q < 6) (hA : A.length = 4) (hB : B.length = 4) : tub (two ns p q A B) q = B := by
  unfold two; exact tub_setTub _ q B (setTub_len ns p A h hp hA) hq hB
theorem two_o (h : ns.length = 24) (hp : p < 6) (hq : q < 6) (hA : A.length = 4) (hB : B.length = 4) (o : Nat) (ho : o < 6) (h1 : o ≠ p) (h2 : o ≠ q) : tub (two ns p q A B) o = tub ns o := by
  unfold two
  rw [tub_setTub_other _ q o B (setTub_len ns p A h hp hA) hq ho hB (Ne.symm h2), tub_setTub_other ns p o A h hp ho hA (Ne.symm h1)]
theorem two_self (h : ns.length = 24) (hp : p < 6) (hq : q < 6) (hne : p ≠ q) : two ns p q (tub ns p) (tub ns q) = ns := by
  have a := tub_len ns p h hp
  have b := tub_len ns q h hq
  refine rack_ext (two_len h hp hq a b) h (fun o ho => ?_)
  by_cases e1 : o = p
  · subst e1; exact two_p h ho hq a b hne
  · by_cases e2 : o = q
    · subst e2; exact two_q h hp ho a b
    · exact two_o h hp hq a b o ho e1 e2
theorem two_set_p (h : ns.length = 24) (hp : p < 6) (hq : q < 6) (hA : A.length = 4) (hB : B.length = 4) (hne : p ≠ q) (k : Nat) (hk : k < 4) (z : Int) : (two ns p q A B).set (p * 4 + k) z = two ns p q (A.set k z) B := by
  have hA' : (A.set k z).length = 4 := by rw [List.length_set]; exact hA
  rw [set_tub _ p k z (two_len h hp hq hA hB) hp hk, two_p h hp hq hA hB hne]
  refine rack_ext (setTub_len _ _ _ (two_len h hp hq hA hB) hp hA') (two_len h hp hq hA' hB) (fun o ho => ?_)
  by_cases e1 : o = p
  · subst e1; rw [tub_setTub _ o _ (two_len h ho hq hA hB) ho hA', two_p h ho hq hA' hB hne]
  · rw [tub_setTub_other _ p o _ (two_len h hp hq hA hB) hp ho hA' (Ne.symm e1)]
    by_cases e2 : o = q
    · subst e2; rw [two_q h hp ho hA hB, two_q h hp ho hA' hB]
    · rw [two_o h hp hq hA hB o ho e1 e2, two_o h hp hq hA' hB o ho e1 e2]
theorem two_set_q (h : ns.length = 24) (hp : p < 6) (hq : q < 6) (hA : A.length = 4) (hB : B.length = 4) (hne : p ≠ q) (k : Nat) (hk : k < 4) (z : Int) : (two ns p q A B).set (q * 4 + k) z = two ns p q A (B.set k z) := by
  have hB' : (B.set k z).length = 4 := by rw [List.length_set]; exact hB
  rw [set_tub _ q k z (two_len h hp hq hA hB) hq hk, two_q h hp hq hA hB]
  refine rack_ext (setTub_len _ _ _ (two_len h hp hq hA hB) hq hB') (two_len h hp hq hA hB') (fun o ho => ?_)
  by_cases e1 : o = q
  · subst e1; rw [tub_setTub _ o _ (two_len h hp ho hA hB) ho hB', two_q h hp ho hA hB']
  · rw [tub_setTub_other _ q o _ (two_len h hp hq hA hB) hq ho hB' (Ne.symm e1)]
    by_cases e2 : o = p
    · subst e2; rw [two_p h ho hq hA hB hne, two_p h ho hq hA hB' hne]
    · rw [two_o h hp hq hA hB o ho e2 e1, two_o h hp hq hA hB' o ho e2 e1]
end

def pourOk (ns : List Int) (i j : Int) : Bool := twoOk ns i j && decide (0 < canN (tub ns i.toNat) (tub ns j.toNat))
def pourN (ns : List Int) (i j : Int) : Nat := canN (tub ns i.toNat) (tub ns j.toNat)
def pourT (ns : List Int) (p q : Nat) : List Int := two ns p q (fromK (tub ns p) (canN (tub ns p) (tub ns q))) (toK (tub ns q) (topC (tub ns p)) (canN (tub ns p) (tub ns q)))
theorem canN_le {s t : List Int} (hs : s.length = 4) (ht : t.length = 4) (vs : vT s = true) (vt : vT t = true) : canN s t ≤ lay s ∧ canN s t + lay t ≤ 4 ∧ (0 < canN s t → 1 ≤ topC s ∧ topC s ≤ 5) := by
  have FS := tubeFacts hs vs
  have FT := tubeFacts ht vt
  have h1 := FS.topN
  have h2 := FT.lay4
  have h3 := FS.noneC
  have h4 := FS.c0
  have h5 := FS.c5
  unfold canN
  split
  · omega
  · refine ⟨by omega, by omega, fun h => ?_⟩
    have : topN s ≠ 0 := by omega
    have : topC s ≠ 0 := fun e => this (h3.1 e)
    omega
end Go.Proofs.Ytpbfdjiglacbbab.base
