/-
  Pours of a list, one behind the other: plain mathematics.
-/
/-
  Paths of pours: plain mathematics.
-/
/-
  Replays: plain mathematics.
-/
import Derived.Test.YtalngdccjoafhabPourMZ
import Derived.Test.YtalngdccjoafhabChgZ

section
namespace Go.Proofs.Ytalngdccjoafhab.base
set_option linter.unusedVariables false
set_option linter.unusedSimpArgs false

def doR (ns fs : List Int) : Nat → List Int
  | 0 => ns
  | k + 1 => pourR (doR ns fs k) (fs.getD (k * 2) 0) (fs.getD (k * 2 + 1) 0)
def doM (ns fs : List Int) : Nat → Int
  | 0 => 0
  | k + 1 => doM ns fs k + pourA (doR ns fs k) (fs.getD (k * 2) 0) (fs.getD (k * 2 + 1) 0)
/-- All of the first k can be poured. -/
def doOk (ns fs : List Int) : Nat → Bool
  | 0 => vR ns
  | k + 1 => doOk ns fs k && pourOk (doR ns fs k) (fs.getD (k * 2) 0) (fs.getD (k * 2 + 1) 0)
def doRA (ns fs : List Int) (n : Nat) : List Int := if doOk ns fs n = true then doR ns fs n else z24
def doMA (ns fs : List Int) (n : Nat) : Int := if doOk ns fs n = true then doM ns fs n else 0
theorem doR_len {ns : List Int} (h : ns.length = 24) (fs : List Int) : ∀ k, (doR ns fs k).length = 24
  | 0 => h
  | k + 1 => pourR_len (doR_len h fs k) _ _
theorem doRA_len {ns : List Int} (h : ns.length = 24) (fs : List Int) (n : Nat) : (doRA ns fs n).length = 24 := by
  unfold doRA
  split
  · exact doR_len h fs n
  · rfl
theorem doOk_stop {ns fs : List Int} {k : Nat} (h : doOk ns fs k = false) : ∀ n, k ≤ n → doOk ns fs n = false
  | 0, hn => by
    obtain rfl : k = 0 := by omega
    exact h
  | n + 1, hn => by
    by_cases e : k = n + 1
    · subst e; exact h
    · rw [doOk, doOk_stop h n (by omega)]; rfl
theorem do_no {ns fs : List Int} {k n : Nat} (h : doOk ns fs k = false) (hn : k ≤ n) : doRA ns fs n = z24 ∧ doMA ns fs n = 0 ∧ doOk ns fs n = false := by
  have := doOk_stop h n hn
  unfold doRA doMA
  rw [this]; exact ⟨rfl, rfl, rfl⟩
theorem do_yes {ns fs : List Int} {n : Nat} (h : doOk ns fs n = true) : doRA ns fs n = doR ns fs n ∧ doMA ns fs n = doM ns fs n := by
  unfold doRA doMA
  rw [h]; exact ⟨rfl, rfl⟩
theorem pourA_small (ns : List Int) (i j : Int) : 0 ≤ pourA ns i j ∧ pourA ns i j ≤ 4 := by
  unfold pourA
  split
  · unfold canN
    split <;> omega
  · omega
theorem doM_small (ns fs : List Int) : ∀ k, 0 ≤ doM ns fs k ∧ doM ns fs k ≤ 4 * k
  | 0 => by rw [doM]; omega
  | k + 1 => by
    have := doM_small ns fs k
    have := pourA_small (doR ns fs k) (fs.getD (k * 2) 0) (fs.getD (k * 2 + 1) 0)
    rw [doM]; omega
end Go.Proofs.Ytalngdccjoafhab.base
end

section
namespace Go.Proofs.Ytalngdccjoafhab.base
set_option linter.unusedVariables false
set_option linter.unusedSimpArgs false

/-- How far one goes while something holds. -/
def stopW (p : Nat → Bool) : Nat → Nat
  | 0 => 0
  | k + 1 => if stopW p k = k ∧ p k = true then k + 1 else stopW p k
theorem stop_le (p : Nat → Bool) : ∀ k, stopW p k ≤ k
  | 0 => Nat.le_refl _
  | k + 1 => by
    have := stop_le p k
    rw [stopW]; split <;> omega
theorem stop_go {p : Nat → Bool} {k : Nat} (h : stopW p k = k) (hp : p k = true) : stopW p (k + 1) = k + 1 := by rw [stopW, if_pos ⟨h, hp⟩]
theorem stop_end {p : Nat → Bool} {k : Nat} (h : stopW p k = k) (hp : p k = false) : ∀ n, k ≤ n → stopW p n = k
  | 0, hn => by
    obtain rfl : k = 0 := by omega
    rfl
  | n + 1, hn => by
    by_cases e : k = n + 1
    · subst e; exact h
    · have ih := stop_end h hp n (by omega)
      rw [stopW, ih, if_neg]
      rintro ⟨h1, h2⟩
      subst h1
      rw [hp] at h2; cases h2
/-- All pours of a path are good. -/
def pathUp (ns fs : List Int) : Nat → Bool
  | 0 => true
  | k + 1 => pathUp ns fs k && goodP (doR ns fs k) (fs.getD (k * 2) 0) (fs.getD (k * 2 + 1) 0)
theorem path_no {ns fs : List Int} {k : Nat} (h : pathUp ns fs k = false) : ∀ n, k ≤ n → pathUp ns fs n = false
  | 0, hn => by
    obtain rfl : k = 0 := by omega
    exact h
  | n + 1, hn => by
    by_cases e : k = n + 1
    · subst e; exact h
    · rw [pathUp, path_no h n (by omega)]; rfl
def pathOk (ns : List Int) (n : Nat) : Bool := vR ns && decide (n ≤ 60)
def pathA (ns fs : List Int) (n : Nat) : Bool := pathOk ns n && pathUp ns fs n
theorem goodP_ok {ns : List Int} {x y : Int} (h : goodP ns x y = true) : pourOk ns x y = true := by unfold goodP at h; exact (Bool.and_eq_true_iff.1 h).1
theorem doR_next {ns fs : List Int} (k : Nat) : doR ns fs (k + 1) = pourR (doR ns fs k) (fs.getD (k * 2) 0) (fs.getD (k * 2 + 1) 0) := rfl
/-- A pour of a valid rack in places and whether it can be poured. -/
theorem pourOk_iff {ns : List Int} (hv : vR ns = true) (x y : Int) : pourOk ns x y = (decide (0 ≤ x ∧ x < 6) && decide (0 ≤ y ∧ y < 6) && decide (x ≠ y ∧ 0 < canN (tub ns x.toNat) (tub ns y.toNat))) := by
  unfold pourOk twoOk
  rw [hv, Bool.true_and, Bool.eq_iff_iff]
  simp only [Bool.and_eq_true, decide_eq_true_eq]
  constructor
  · rintro ⟨⟨⟨h1, h2⟩, h3⟩, h4⟩; exact ⟨⟨h1, h2⟩, h3, h4⟩
  · rintro ⟨⟨h1, h2⟩, h3, h4⟩; exact ⟨⟨⟨h1, h2⟩, h3⟩, h4⟩
theorem pourOk_parts {ns : List Int} {x y : Int} (h : pourOk ns x y = true) : ∃ p q : Nat, x = (p : Int) ∧ y = (q : Int) ∧ p < 6 ∧ q < 6 ∧ p ≠ q ∧ 0 < canN (tub ns p) (tub ns q) := by
  have h2 : twoOk ns x y = true := by unfold pourOk at h; exact (Bool.and_eq_true_iff.1 h).1
  obtain ⟨hv, p, q, rfl, rfl, hp, hq, hne⟩ := twoOk_of h2
  refine ⟨p, q, rfl, rfl, hp, hq, hne, ?_⟩
  unfold pourOk at h
  simpa using (Bool.and_eq_true_iff.1 h).2
/-- The bounds along a path. -/
def alUp (ns fs : List Int) : Nat → List Int
  | 0 => [bndA ns]
  | k + 1 => alUp ns fs k ++ [bndA (doR ns fs (k + 1))]
theorem alUp_len (ns fs : List Int) : ∀ k, (alUp ns fs k).length = k + 1
  | 0 => rfl
  | k + 1 => by rw [alUp, List.length_append, alUp_len ns fs k]; rfl
def canAt (ns fs : List Int) (k : Nat) : Bool := pourOk (doR ns fs k) (fs.getD (k * 2) 0) (fs.getD (k * 2 + 1) 0)
def alongF (ns fs : List Int) (n : Nat) : List Int := if pathOk ns n = true then alUp ns fs (stopW (canAt ns fs) n) else []
def alongN (ns fs : List Int) (n : Nat) : Nat := if pathOk ns n = true then stopW (canAt ns fs) n + 1 else 0
theorem along_len (ns fs : List Int) (n : Nat) : (alongF ns fs n).length = alongN ns fs n := by
  unfold alongF alongN
  split
  · exact alUp_len ns fs _
  · rfl
theorem alongN_le (ns fs : List Int) (n : Nat) : alongN ns fs n ≤ 61 := by
  unfold alongN
  split
  · rename_i h
    unfold pathOk at h
    have := stop_le (canAt ns fs) n
    simp at h; omega
  · omega
/-- The greatest number of layers that a listed pour moves, and which pour it is. -/
def mostUp (ns fs : List Int) : Nat → Int × Int × Int
  | 0 => (0, 0, 0)
  | k + 1 => if (mostUp ns fs k).1 < pourA ns (fs.getD (k * 2) 0) (fs.getD (k * 2 + 1) 0) then (pourA ns (fs.getD (k * 2) 0) (fs.getD (k * 2 + 1) 0), fs.getD (k * 2) 0, fs.getD (k * 2 + 1) 0) else mostUp ns fs k
def mostA (ns : List Int) : Int × Int × Int := mostUp ns (poursFA ns) (poursNA ns)
theorem most_in (ns fs : List Int) : ∀ k, 0 ≤ (mostUp ns fs k).1 ∧ (mostUp ns fs k).1 ≤ 4
  | 0 => ⟨Int.le_refl _, show (0 : Int) ≤ 4 by decide⟩
  | k + 1 => by
    have h1 := most_in ns fs k
    have h2 := pourA_small ns (fs.getD (k * 2) 0) (fs.getD (k * 2 + 1) 0)
    rw [mostUp]
    split
    · exact h2
    · exact h1
theorem most_yes {ns fs : List Int} {k : Nat} (h : (mostUp ns fs k).1 < pourA ns (fs.getD (k * 2) 0) (fs.getD (k * 2 + 1) 0)) : mostUp ns fs (k + 1) = (pourA ns (fs.getD (k * 2) 0) (fs.getD (k * 2 + 1) 0), fs.getD (k * 2) 0, fs.getD (k * 2 + 1) 0) := by rw [mostUp, if_pos h]
theorem most_no {ns fs : List Int} {k : Nat} (h : ¬ (mostUp ns fs k).1 < pourA ns (fs.getD (k * 2) 0) (fs.getD (k * 2 + 1) 0)) : mostUp ns fs (k + 1) = mostUp ns fs k := by rw [mostUp, if_neg h]
theorem most_not {ns : List Int} (h : vR ns = false) : mostA ns = (0, 0, 0) := by
  unfold mostA poursNA; rw [h]; rfl
/-- The path in which each pour is the first good one. -/
def gpX (ns : List Int) : Int := (goodF ns).getD 0 0
def gpY (ns : List Int) : Int := (goodF ns).getD 1 0
def gpR (ns : List Int) : Nat → List Int
  | 0 => ns
  | k + 1 => pourR (gpR ns k) (gpX (gpR ns k)) (gpY (gpR ns k))
def gpF (ns : List Int) : Nat → List Int
  | 0 => []
  | k + 1 => gpF ns k ++ [gpX (gpR ns k), gpY (gpR ns k)]
def gpMore (ns : List Int) (k : Nat) : Bool := decide (0 < goodN (gpR ns k))
def gpN (ns : List Int) : Nat := stopW (gpMore ns) 60
theorem gpF_len (ns : List Int) : ∀ k, (gpF ns k).length = k * 2
  | 0 => rfl
  | k + 1 => by rw [gpF, List.length_append, gpF_len ns k]; simp; omega
theorem getD_left (l r : List Int) (j : Nat) (h : j < l.length) : (l ++ r).getD j 0 = l.getD j 0 := by
  rw [List.getD_eq_getElem?_getD, List.getD_eq_getElem?_getD, List.getElem?_append_left h]
/-- The first good pour is good. -/
theorem filt_first {P : Int → Int → Bool} {fs : List Int} : ∀ k, 0 < filtN P fs k → P ((filtF P fs k).getD 0 0) ((filtF P fs k).getD 1 0) = true
  | 0, h => by rw [filt0.2] at h; omega
  | k + 1, h => by
    cases hp : P (fs.getD (k * 2) 0) (fs.getD (k * 2 + 1) 0) with
    | false =>
      have e := filt_no hp
      rw [e.1]; rw [e.2] at h; exact filt_first k h
    | true =>
      have e := filt_yes hp
      have hl := filt_len (P := P) (fs := fs) k
      rw [e.1]
      by_cases h0 : 0 < filtN P fs k
      · have ih := filt_first k h0
        rw [getD_left _ _ _ (by omega), getD_left _ _ _ (by omega)]
        exact ih
      · have hz : filtF P fs k = [] := List.length_eq_zero_iff.1 (by omega)
        rw [hz]; exact hp
theorem gp_good {ns : List Int} {k : Nat} (h : gpMore ns k = true) : goodP (gpR ns k) (gpX (gpR ns k)) (gpY (gpR ns k)) = true :=
  filt_first (P := goodP (gpR ns k)) (fs := poursFA (gpR ns k)) (poursNA (gpR ns k)) (by unfold gpMore at h; exact of_decide_eq_true h)
/-- Each step of such a path lowers the bound: it ends. -/
theorem gp_facts {ns : List Int} (h24 : ns.length = 24) (hv : vR ns = true) : ∀ k, stopW (gpMore ns) k = k → (gpR ns k).length = 24 ∧ vR (gpR ns k) = true ∧ bndA (gpR ns k) + k ≤ bndA ns
  | 0, _ => ⟨h24, hv, by simp [gpR]⟩
  | k + 1, h => by
    have hk : stopW (gpMore ns) k = k ∧ gpMore ns k = true := by
      rw [stopW] at h
      split at h
      · assumption
      · have := stop_le (gpMore ns) k; omega
    obtain ⟨h1, h2, h3⟩ := gp_facts h24 hv k hk.1
    have g := gp_good hk.2
    have ok := goodP_ok g
    have g2 : bndA (pourR (gpR ns k) (gpX (gpR ns k)) (gpY (gpR ns k))) < bndA (gpR ns k) := by unfold goodP at g; simpa using (Bool.and_eq_true_iff.1 g).2
    refine ⟨pourR_len h1 _ _, (pour_facts h1 ok).valid, ?_⟩
    rw [gpR]; omega
theorem gp_short {ns : List Int} (h24 : ns.length = 24) (hv : vR ns = true) {k : Nat} (h : stopW (gpMore ns) k = k) : k ≤ 55 := by
  obtain ⟨h1, h2, h3⟩ := gp_facts h24 hv k h
  have m1 := (meas_in h24 hv).2.2
  have m2 := (meas_in h1 h2).2.2
  omega
end Go.Proofs.Ytalngdccjoafhab.base
end

section
namespace Go.Proofs.Ytalngdccjoafhab.base
set_option linter.unusedVariables false
set_option linter.unusedSimpArgs false

/-- A replay with so many pours is valid. -/
def rpOk (ns fs : List Int) (n : Nat) : Bool := decide (n ≤ 60) && doOk ns fs n
/-- Its racks, from the first one on. -/
def rks (ns fs : List Int) (n : Nat) : List (List Int) := (List.range (n + 1)).map (doR ns fs)
def rkA (ns fs : List Int) (n : Nat) : List (List Int) := if rpOk ns fs n = true then rks ns fs n else []
theorem rks_len (ns fs : List Int) (n : Nat) : (rks ns fs n).length = n + 1 := by unfold rks; simp
theorem rks_next (ns fs : List Int) (n : Nat) : rks ns fs (n + 1) = rks ns fs n ++ [doR ns fs (n + 1)] := by
  unfold rks; rw [List.range_succ, List.map_append]; rfl
theorem rks_get (ns fs : List Int) (n k : Nat) (h : k ≤ n) : (rks ns fs n).getD k [] = doR ns fs k := by
  unfold rks
  rw [List.getD_eq_getElem?_getD, List.getElem?_map, List.getElem?_range (by omega)]; rfl
theorem rks_lens {ns : List Int} (h : ns.length = 24) (fs : List Int) (n : Nat) : ∀ l ∈ rks ns fs n, l.length = 24 := fun l hl => by
  unfold rks at hl
  obtain ⟨k, _, rfl⟩ := List.mem_map.1 hl
  exact doR_len h fs k
theorem rk_yes {ns fs : List Int} {n : Nat} (h : rpOk ns fs n = true) : rkA ns fs n = rks ns fs n := by unfold rkA; rw [if_pos h]
theorem rk_no {ns fs : List Int} {n : Nat} (h : rpOk ns fs n = false) : rkA ns fs n = [] := by unfold rkA; rw [if_neg (by rw [h]; simp)]
theorem rk_le (ns fs : List Int) (n : Nat) : (rkA ns fs n).length ≤ 61 := by
  cases h : rpOk ns fs n with
  | false => rw [rk_no h]; simp
  | true =>
    rw [rk_yes h, rks_len]
    unfold rpOk at h
    have := of_decide_eq_true (Bool.and_eq_true_iff.1 h).1
    omega
theorem rp_le {ns fs : List Int} {n : Nat} (h : rpOk ns fs n = true) : n ≤ 60 := by
  unfold rpOk at h
  exact of_decide_eq_true (Bool.and_eq_true_iff.1 h).1
theorem rp_do {ns fs : List Int} {n : Nat} (h : rpOk ns fs n = true) : doOk ns fs n = true := by
  unfold rpOk at h
  exact (Bool.and_eq_true_iff.1 h).2
theorem rp_of {ns fs : List Int} {n : Nat} (h : n ≤ 60) (hd : doOk ns fs n = true) : rpOk ns fs n = true := by
  unfold rpOk; rw [decide_eq_true h, hd]; rfl
theorem rp_far {ns fs : List Int} {n : Nat} (h : ¬ n ≤ 60) : rpOk ns fs n = false := by unfold rpOk; rw [decide_eq_false h]; rfl
theorem rp_off {ns fs : List Int} {n k : Nat} (h : doOk ns fs k = false) (hk : k ≤ n) : rpOk ns fs n = false := by
  unfold rpOk; rw [doOk_stop h n hk, Bool.and_false]
theorem do_zero (ns fs : List Int) : doOk ns fs 0 = vR ns := rfl
theorem do_next (ns fs : List Int) (k : Nat) : doOk ns fs (k + 1) = (doOk ns fs k && canAt ns fs k) := rfl
theorem do_back {ns fs : List Int} {n : Nat} (h : doOk ns fs n = true) {k : Nat} (hk : k ≤ n) : doOk ns fs k = true := by
  cases hd : doOk ns fs k with
  | true => rfl
  | false => rw [doOk_stop hd n hk] at h; cases h
theorem do_can {ns fs : List Int} {n : Nat} (h : doOk ns fs n = true) {k : Nat} (hk : k < n) : canAt ns fs k = true := by
  have := do_back h (show k + 1 ≤ n by omega)
  rw [do_next] at this
  exact (Bool.and_eq_true_iff.1 this).2
theorem do_first {ns fs : List Int} {n : Nat} (h : doOk ns fs n = true) : vR ns = true := do_back h (Nat.zero_le n)
/-- All racks of a valid replay are valid. -/
theorem do_valid {ns fs : List Int} (h24 : ns.length = 24) : ∀ {k : Nat}, doOk ns fs k = true → vR (doR ns fs k) = true
  | 0, h => h
  | k + 1, h => by
    rw [do_next] at h
    have h2 := (Bool.and_eq_true_iff.1 h).2
    exact (pour_facts (doR_len h24 fs k) h2).valid
/-- The racks depend on the first pours alone. -/
theorem do_same {ns fs gs : List Int} : ∀ {k : Nat}, (∀ j, j < k * 2 → fs.getD j 0 = gs.getD j 0) → doR ns fs k = doR ns gs k ∧ doOk ns fs k = doOk ns gs k ∧ doM ns fs k = doM ns gs k
  | 0, _ => ⟨rfl, rfl, rfl⟩
  | k + 1, h => by
    obtain ⟨h1, h2, h3⟩ := do_same (k := k) (ns := ns) (fun j hj => h j (by omega))
    have e0 := h (k * 2) (by omega)
    have e1 := h (k * 2 + 1) (by omega)
    rw [doR, doR, doOk, doOk, doM, doM, h1, h2, h3, e0, e1]
    exact ⟨rfl, rfl, rfl⟩
theorem getD_app (l r : List Int) (j : Nat) (h : j < l.length) : (l ++ r).getD j 0 = l.getD j 0 := getD_left l r j h
theorem getD_appr (l r : List Int) (j : Nat) : (l ++ r).getD (l.length + j) 0 = r.getD j 0 := by
  rw [List.getD_eq_getElem?_getD, List.getD_eq_getElem?_getD, List.getElem?_append_right (by omega), Nat.add_sub_cancel_left]
theorem do_app {ns fs : List Int} (gs : List Int) {n k : Nat} (hl : fs.length = n * 2) (hk : k ≤ n) : doR ns (fs ++ gs) k = doR ns fs k ∧ doOk ns (fs ++ gs) k = doOk ns fs k ∧ doM ns (fs ++ gs) k = doM ns fs k :=
  do_same (fun j hj => getD_app fs gs j (by omega))
theorem getD_take (l : List Int) (m j : Nat) (h : j < m) : (l.take m).getD j 0 = l.getD j 0 := by
  rw [List.getD_eq_getElem?_getD, List.getD_eq_getElem?_getD, List.getElem?_take, if_pos h]
theorem do_take {ns fs : List Int} {n k : Nat} (hk : k ≤ n) : doR ns (fs.take (n * 2)) k = doR ns fs k ∧ doOk ns (fs.take (n * 2)) k = doOk ns fs k ∧ doM ns (fs.take (n * 2)) k = doM ns fs k :=
  do_same (fun j hj => getD_take fs (n * 2) j (by omega))

/-! one rack -/
def rrOk (ns fs : List Int) (n : Nat) (k : Int) : Bool := rpOk ns fs n && decide (0 ≤ k ∧ k ≤ n)
def rrA (ns fs : List Int) (n : Nat) (k : Int) : List Int := if rrOk ns fs n k = true then doR ns fs k.toNat else z24
theorem rrA_len {ns : List Int} (h : ns.length = 24) (fs : List Int) (n : Nat) (k : Int) : (rrA ns fs n k).length = 24 := by
  unfold rrA
  split
  · exact doR_len h fs _
  · rfl

/-! a replay as an answer: its first rack, its pours and their number, or nothing -/
def orR (b : Bool) (ns : List Int) : List Int := if b = true then ns else z24
def orF (b : Bool) (fs : List Int) : List Int := if b = true then fs else []
def orN (b : Bool) (n : Nat) : Nat := if b = true then n else 0
theorem orR_len {ns : List Int} (h : ns.length = 24) (b : Bool) : (orR b ns).length = 24 := by
  cases b
  · rfl
  · exact h

/-! one pour more, some pours less -/
def apOk (ns fs : List Int) (n : Nat) (x y : Int) : Bool := rpOk ns (fs ++ [x, y]) (n + 1)
theorem apOk_eq {ns fs : List Int} {n : Nat} (hl : fs.length = n * 2) (x y : Int) : apOk ns fs n x y = (rpOk ns fs n && decide (n < 60) && pourOk (doR ns fs n) x y) := by
  obtain ⟨h1, h2, _⟩ := do_app (ns := ns) [x, y] hl (Nat.le_refl n)
  have e0 : (fs ++ [x, y]).getD (n * 2) 0 = x := by have := getD_appr fs [x, y] 0; rw [hl, Nat.add_zero] at this; exact this
  have e1 : (fs ++ [x, y]).getD (n * 2 + 1) 0 = y := by have := getD_appr fs [x, y] 1; rw [hl] at this; exact this
  unfold apOk rpOk
  rw [do_next]
  unfold canAt
  rw [e0, e1, h1, h2]
  by_cases hn : n < 60
  · rw [decide_eq_true (show n + 1 ≤ 60 by omega), decide_eq_true (show n ≤ 60 by omega), decide_eq_true hn, Bool.true_and, Bool.true_and, Bool.and_true]
  · rw [decide_eq_false (show ¬ n + 1 ≤ 60 by omega), decide_eq_false hn, Bool.false_and, Bool.and_false, Bool.false_and]
def upOk (ns fs : List Int) (n : Nat) (k : Int) : Bool := rpOk ns fs n && decide (0 ≤ k ∧ k ≤ n)

/-! does it solve -/
def dsA (ns fs : List Int) (n : Nat) : Bool := rpOk ns fs n && sortedA (doR ns fs n)

/-! two pours exchanged -/
def swF (fs : List Int) (k : Nat) : List Int := (((fs.set (k * 2) (fs.getD (k * 2 + 2) 0)).set (k * 2 + 1) (fs.getD (k * 2 + 3) 0)).set (k * 2 + 2) (fs.getD (k * 2) 0)).set (k * 2 + 3) (fs.getD (k * 2 + 1) 0)
theorem swF_len (fs : List Int) (k : Nat) : (swF fs k).length = fs.length := by unfold swF; simp
def csOk (ns fs : List Int) (n : Nat) (k : Int) : Bool := rpOk ns fs n && decide (0 ≤ k ∧ k < (n : Int) - 1)
def csA (ns fs : List Int) (n : Nat) (k : Int) : Bool := csOk ns fs n k && (rpOk ns (swF fs k.toNat) n && decide (doR ns (swF fs k.toNat) n = doR ns fs n))
/-- How many layers are moved. -/
def mlA (ns fs : List Int) (n : Nat) : Int := if rpOk ns fs n = true then doM ns fs n else 0
def cfOk (ns fs : List Int) (n : Nat) : Bool := dsA ns fs n
def cfA (ns fs : List Int) (n : Nat) : Int := if dsA ns fs n = true then (n : Int) - bndA ns else 0
end Go.Proofs.Ytalngdccjoafhab.base
end
