/-
  What the law of good paths says, in plain mathematics.
-/
import Derived.Test.YtmhkjakgdfadbabBndX
import Derived.Test.YtmhkjakgdfadbabPthS
namespace Go.Proofs.Ytmhkjakgdfadbab.base
set_option linter.unusedVariables false
set_option linter.unusedSimpArgs false

theorem stop_all {p : Nat → Bool} : ∀ {k : Nat}, stopW p k = k → ∀ j, j < k → p j = true ∧ stopW p j = j
  | 0, _, j, hj => by omega
  | k + 1, h, j, hj => by
    rw [stopW] at h
    split at h
    · rename_i hk
      by_cases e : j = k
      · subst e; exact ⟨hk.2, hk.1⟩
      · exact stop_all hk.1 j (by omega)
    · have := stop_le p k; omega
theorem stop_stop (p : Nat → Bool) : ∀ n, stopW p (stopW p n) = stopW p n
  | 0 => rfl
  | n + 1 => by
    by_cases h : stopW p n = n ∧ p n = true
    · have e : stopW p (n + 1) = n + 1 := by rw [stopW, if_pos h]
      rw [e, e]
    · have e : stopW p (n + 1) = stopW p n := by rw [stopW, if_neg h]
      rw [e]; exact stop_stop p n
theorem stop_last {p : Nat → Bool} : ∀ n, stopW p n < n → p (stopW p n) = false
  | 0, h => by omega
  | n + 1, h => by
    by_cases hc : stopW p n = n ∧ p n = true
    · have e : stopW p (n + 1) = n + 1 := by rw [stopW, if_pos hc]
      omega
    · have e : stopW p (n + 1) = stopW p n := by rw [stopW, if_neg hc]
      rw [e] at h ⊢
      by_cases h2 : stopW p n = n
      · rw [h2]
        cases hp : p n with
        | false => rfl
        | true => exact absurd ⟨h2, hp⟩ hc
      · have := stop_le p n
        exact stop_last n (by omega)
/-- A pour is good exactly if it is possible and the bound falls by one. -/
theorem good_one {ns : List Int} {x y : Int} (h24 : ns.length = 24) (h : goodP ns x y = true) : pourOk ns x y = true ∧ bndA (pourR ns x y) = bndA ns - 1 := by
  have ok := goodP_ok h
  have g2 : bndA (pourR ns x y) < bndA ns := by unfold goodP at h; simpa using (Bool.and_eq_true_iff.1 h).2
  have := (pour_bound h24 ok).bound
  exact ⟨ok, by omega⟩
theorem one_good {ns : List Int} {x y : Int} (ok : pourOk ns x y = true) (h : bndA (pourR ns x y) = bndA ns - 1) : goodP ns x y = true := by
  unfold goodP; rw [ok, Bool.true_and]; exact decide_eq_true (by omega)
/-- The bounds fall by one, up to a place. -/
def fallUp (ns fs : List Int) : Nat → Bool
  | 0 => true
  | k + 1 => fallUp ns fs k && decide (bndA (doR ns fs (k + 1)) = bndA (doR ns fs k) - 1)
theorem falls_iff {ns fs : List Int} (h24 : ns.length = 24) (n : Nat) : (decide (stopW (canAt ns fs) n = n) && fallUp ns fs (stopW (canAt ns fs) n)) = pathUp ns fs n := by
  have fwd : ∀ k, pathUp ns fs k = true → stopW (canAt ns fs) k = k ∧ fallUp ns fs k = true := by
    intro k
    induction k with
    | zero => intro _; exact ⟨rfl, rfl⟩
    | succ k ih =>
      intro h
      rw [pathUp, Bool.and_eq_true] at h
      obtain ⟨i1, i2⟩ := ih h.1
      have g := good_one (doR_len h24 fs k) h.2
      exact ⟨stop_go i1 g.1, by rw [fallUp, i2, Bool.true_and]; exact decide_eq_true g.2⟩
  have bwd : ∀ k, stopW (canAt ns fs) k = k → fallUp ns fs k = true → pathUp ns fs k = true := by
    intro k
    induction k with
    | zero => intro _ _; rfl
    | succ k ih =>
      intro h1 h2
      have a := stop_all h1 k (by omega)
      rw [fallUp, Bool.and_eq_true] at h2
      rw [pathUp, ih a.2 h2.1, Bool.true_and]
      exact one_good a.1 (of_decide_eq_true h2.2)
  rw [Bool.eq_iff_iff, Bool.and_eq_true, decide_eq_true_eq]
  constructor
  · rintro ⟨h1, h2⟩
    rw [h1] at h2; exact bwd n h1 h2
  · intro h
    obtain ⟨i1, i2⟩ := fwd n h
    exact ⟨i1, by rw [i1]; exact i2⟩
theorem alUp_at (ns fs : List Int) : ∀ k j, j ≤ k → (alUp ns fs k).getD j 0 = bndA (doR ns fs j)
  | 0, j, hj => by
    obtain rfl : j = 0 := by omega
    rfl
  | k + 1, j, hj => by
    have hl := alUp_len ns fs k
    by_cases e : j = k + 1
    · subst e
      rw [alUp, List.getD_eq_getElem?_getD, List.getElem?_append_right (by omega), hl, Nat.sub_self]; rfl
    · rw [alUp, getD_left _ _ _ (by omega)]; exact alUp_at ns fs k j (by omega)
theorem gpF_at (ns : List Int) : ∀ N k, k < N → (gpF ns N).getD (k * 2) 0 = gpX (gpR ns k) ∧ (gpF ns N).getD (k * 2 + 1) 0 = gpY (gpR ns k)
  | 0, k, hk => by omega
  | N + 1, k, hk => by
    have hl := gpF_len ns N
    rw [gpF]
    by_cases e : k = N
    · subst e
      rw [List.getD_eq_getElem?_getD, List.getElem?_append_right (by omega), hl, Nat.sub_self, List.getD_eq_getElem?_getD, List.getElem?_append_right (by omega), hl, Nat.add_sub_cancel_left]
      exact ⟨rfl, rfl⟩
    · rw [getD_left _ _ _ (by omega), getD_left _ _ _ (by omega)]; exact gpF_at ns N k (by omega)
theorem doR_gp (ns : List Int) (N : Nat) : ∀ k, k ≤ N → doR ns (gpF ns N) k = gpR ns k
  | 0, _ => rfl
  | k + 1, hk => by
    obtain ⟨a, b⟩ := gpF_at ns N k (by omega)
    rw [doR_next, doR_gp ns N k (by omega), a, b]; rfl
structure GpLast (ns : List Int) : Prop where
  le : gpN ns ≤ 60
  len : (gpR ns (gpN ns)).length = 24
  ok : vR (gpR ns (gpN ns)) = true
  none : goodN (gpR ns (gpN ns)) = 0
  path : pathUp ns (gpF ns (gpN ns)) (gpN ns) = true
  falls : bndA ns - bndA (gpR ns (gpN ns)) = (gpN ns : Nat)
theorem gp_last {ns : List Int} (h24 : ns.length = 24) (hv : vR ns = true) : GpLast ns := by
  have hs : stopW (gpMore ns) (gpN ns) = gpN ns := stop_stop _ 60
  obtain ⟨f1, f2, _⟩ := gp_facts h24 hv _ hs
  have hk := gp_short h24 hv hs
  have hn : gpMore ns (gpN ns) = false := stop_last 60 (show gpN ns < 60 by omega)
  have hall := fun j hj => stop_all hs j hj
  have hg : ∀ j, j < gpN ns → goodP (gpR ns j) (gpX (gpR ns j)) (gpY (gpR ns j)) = true := fun j hj => gp_good (hall j hj).1
  have hlen : ∀ j, (gpR ns j).length = 24 := fun j => gpR_len h24 j
  refine ⟨by omega, f1, f2, ?_, ?_, ?_⟩
  · unfold gpMore at hn
    have := of_decide_eq_false hn
    omega
  · have : ∀ k, k ≤ gpN ns → pathUp ns (gpF ns (gpN ns)) k = true := by
      intro k
      induction k with
      | zero => intro _; rfl
      | succ k ih =>
        intro hk
        obtain ⟨a, b⟩ := gpF_at ns (gpN ns) k (by omega)
        rw [pathUp, ih (by omega), Bool.true_and, doR_gp ns (gpN ns) k (by omega), a, b]
        exact hg k (by omega)
    exact this _ (Nat.le_refl _)
  · have : ∀ k, k ≤ gpN ns → bndA ns - bndA (gpR ns k) = (k : Nat) := by
      intro k
      induction k with
      | zero => intro _; simp [gpR]
      | succ k ih =>
        intro hk
        have i := ih (by omega)
        have g := (good_one (hlen k) (hg k (by omega))).2
        rw [gpR]; omega
    exact this _ (Nat.le_refl _)
/-- The pour that moves most is possible, and moves as many. -/
theorem most_ok {ns : List Int} (h : 0 < (mostA ns).1) : pourOk ns (mostA ns).2.1 (mostA ns).2.2 = true ∧ pourA ns (mostA ns).2.1 (mostA ns).2.2 = (mostA ns).1 := by
  have key : ∀ k, 0 < (mostUp ns (poursFA ns) k).1 → pourA ns (mostUp ns (poursFA ns) k).2.1 (mostUp ns (poursFA ns) k).2.2 = (mostUp ns (poursFA ns) k).1 := by
    intro k
    induction k with
    | zero => intro h; exact absurd h (show ¬ (0 : Int) < 0 by decide)
    | succ k ih =>
      intro h
      by_cases hc : (mostUp ns (poursFA ns) k).1 < pourA ns ((poursFA ns).getD (k * 2) 0) ((poursFA ns).getD (k * 2 + 1) 0)
      · rw [most_yes hc]
      · rw [most_no hc] at h ⊢; exact ih h
  have e := key (poursNA ns) h
  refine ⟨?_, e⟩
  have hp : 0 < pourA ns (mostA ns).2.1 (mostA ns).2.2 := by
    have : pourA ns (mostA ns).2.1 (mostA ns).2.2 = (mostA ns).1 := e
    rw [this]; exact h
  unfold pourA at hp
  split at hp
  · assumption
  · omega
end Go.Proofs.Ytmhkjakgdfadbab.base
