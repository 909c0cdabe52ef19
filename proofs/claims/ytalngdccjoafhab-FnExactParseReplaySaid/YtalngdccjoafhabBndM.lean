/-
  Runs, bottoms, boundaries and bounds of a rack: plain mathematics.
-/
import Derived.Test.YtalngdccjoafhabRackToZ
import Derived.Test.YtalngdccjoafhabRuns
namespace Go.Proofs.Ytalngdccjoafhab.base
set_option linter.unusedVariables false
set_option linter.unusedSimpArgs false

/-- How many runs a tube of a rack has. -/
def nR (ns : List Int) (p : Nat) : Nat := runsN (tub ns p) (lay (tub ns p))
/-- The runs of the first tubes together. -/
def runUp (ns : List Int) : Nat → Nat
  | 0 => 0
  | p + 1 => runUp ns p + nR ns p
theorem nR_le {ns : List Int} (h24 : ns.length = 24) (hv : vR ns = true) (p : Nat) (hp : p < 6) : nR ns p ≤ 4 := by
  have h4 := tub_len ns p h24 hp
  have hvt := vR_tub hv p hp
  have hL := (tubeFacts h4 hvt).lay4
  have := (runFacts h4 hvt (lay (tub ns p)) hL).small
  unfold nR; omega
theorem runUp_le {ns : List Int} (h24 : ns.length = 24) (hv : vR ns = true) : ∀ p, p ≤ 6 → runUp ns p ≤ p * 4
  | 0, _ => by rw [runUp]; omega
  | p + 1, h => by
    have h1 := runUp_le h24 hv p (by omega)
    have h2 := nR_le h24 hv p (by omega)
    rw [runUp]; omega
/-- The lowest layers of the tubes. -/
def bots (ns : List Int) : List Int := (List.range 6).map fun i => (tub ns i).getD 0 0
theorem bots_len (ns : List Int) : (bots ns).length = 6 := by unfold bots; rw [List.length_map, List.length_range]
theorem bots_get (ns : List Int) (p : Nat) (hp : p < 6) : (bots ns).getD p 0 = (tub ns p).getD 0 0 := by
  unfold bots; rw [List.getD_eq_getElem?_getD, List.getElem?_map, List.getElem?_range hp]; rfl
def botUp (ns : List Int) (p : Nat) : List Int := cntUp (bots ns) p
theorem bot_step (ns : List Int) (h24 : ns.length = 24) (hv : vR ns = true) (p : Nat) (hp : p < 6) :
    ∃ c : Nat, c < 6 ∧ (tub ns p).getD 0 0 = (c : Int) ∧ botUp ns (p + 1) = (botUp ns p).set c ((botUp ns p).getD c 0 + 1) := by
  have h4 := tub_len ns p h24 hp
  have hk := (known_iff h4).1 (by have := vR_tub hv p hp; unfold vT at this; exact (Bool.and_eq_true_iff.1 this).1) 0 (by omega)
  refine ⟨((tub ns p).getD 0 0).toNat, by omega, by omega, ?_⟩
  unfold botUp
  rw [cntUp_step (bots ns) p (by rw [bots_len]; exact hp), bots_get ns p hp]; rfl
theorem bot_all (ns : List Int) (p : Nat) : (botUp ns p).length = 6 ∧ ∀ c, 0 ≤ (botUp ns p).getD c 0 ∧ (botUp ns p).getD c 0 ≤ p := cnt_all (bots ns) p
theorem bot0 (ns : List Int) : botUp ns 0 = z6 := by unfold botUp cntUp; rw [List.take_zero]; rfl

def runsA (ns : List Int) : Int := if vR ns = true then (runUp ns 6 : Nat) else 0
def botA (ns : List Int) : List Int := if vR ns = true then botUp ns 6 else z6
theorem botA_len (ns : List Int) : (botA ns).length = 6 := by
  unfold botA
  by_cases h : vR ns = true
  · rw [if_pos h]; exact (bot_all ns 6).1
  · rw [if_neg h]; rfl
/-- The number of boundaries. -/
def edgeN (ns : List Int) : Int := (runUp ns 6 : Nat) - 6 + (botUp ns 6).getD 0 0
def edgeA (ns : List Int) : Int := if vR ns = true then edgeN ns else 0
/-- The bound, colors up to one. -/
def bndUp (ns : List Int) : Nat → Int
  | 0 => edgeN ns
  | c + 1 => bndUp ns c + max ((botUp ns 6).getD (c + 1) 0 - 1) 0
def bndN (ns : List Int) : Int := bndUp ns 5
def bndA (ns : List Int) : Int := if vR ns = true then bndN ns else 0
theorem edge_in {ns : List Int} (h24 : ns.length = 24) (hv : vR ns = true) : -6 ≤ edgeN ns ∧ edgeN ns ≤ 24 := by
  have h1 := runUp_le h24 hv 6 (Nat.le_refl _)
  have h2 := (bot_all ns 6).2 0
  unfold edgeN; omega
theorem bnd_in {ns : List Int} (h24 : ns.length = 24) (hv : vR ns = true) : ∀ c, -6 ≤ bndUp ns c ∧ bndUp ns c ≤ 24 + c * 5
  | 0 => by have := edge_in h24 hv; rw [bndUp]; omega
  | c + 1 => by
    have h1 := bnd_in h24 hv c
    have h2 := (bot_all ns 6).2 (c + 1)
    rw [bndUp]; omega
/-- The runs less the colors up to one. -/
def spareUp (ns : List Int) : Nat → Int
  | 0 => (runUp ns 6 : Nat)
  | c + 1 => spareUp ns c - min ((cntUp ns 24).getD (c + 1) 0) 1
def spareA (ns : List Int) : Int := if vR ns = true then spareUp ns 5 else 0
theorem spare_in {ns : List Int} (h24 : ns.length = 24) (hv : vR ns = true) : ∀ c : Nat, -(c : Int) ≤ spareUp ns c ∧ spareUp ns c ≤ 24
  | 0 => by have := runUp_le h24 hv 6 (Nat.le_refl _); rw [spareUp]; omega
  | c + 1 => by
    have h1 := spare_in h24 hv c
    have h2 := (cnt_all ns 24).2 (c + 1)
    rw [spareUp]; omega
/-- Each color has at most four layers. -/
def fitsUp (ns : List Int) (c : Nat) : Bool := (List.range c).all fun j => decide ((cntUp ns 24).getD (j + 1) 0 ≤ 4)
def fitsA (ns : List Int) : Bool := vR ns && fitsUp ns 5
theorem fits_step (ns : List Int) (c : Nat) : fitsUp ns (c + 1) = (fitsUp ns c && decide ((cntUp ns 24).getD (c + 1) 0 ≤ 4)) := by
  unfold fitsUp; rw [List.range_succ, List.all_append]; simp
theorem fits_no {ns : List Int} {c : Nat} (h : fitsUp ns c = false) : ∀ d, c ≤ d → fitsUp ns d = false
  | 0, hd => by
    obtain rfl : c = 0 := by omega
    exact h
  | d + 1, hd => by
    by_cases e : c = d + 1
    · subst e; exact h
    · rw [fits_step, fits_no h d (by omega)]; rfl
end Go.Proofs.Ytalngdccjoafhab.base
