/-
  Loops that are cut out: plain mathematics.
-/
import Derived.Test.YtalngdccjoafhaaRyLo
namespace Go.Proofs.Ytalngdccjoafhaa.base
set_option linter.unusedVariables false
set_option linter.unusedSimpArgs false

/-! the loops as pairs of numbers -/
def lpPI (L : List (List Int)) (k : Nat) : Nat → List (Nat × Nat)
  | 0 => []
  | j + 1 => lpPI L k j ++ (if L.getD k [] = L.getD (k + 1 + j) [] then [(k, k + 1 + j)] else [])
def lpPU (L : List (List Int)) : Nat → List (Nat × Nat)
  | 0 => []
  | k + 1 => lpPU L k ++ lpPI L k (L.length - (k + 1))
def lpP (L : List (List Int)) : List (Nat × Nat) := lpPU L L.length
def flatP : List (Nat × Nat) → List Int
  | [] => []
  | p :: r => (p.1 : Int) :: (p.2 : Int) :: flatP r
theorem flatP_app : ∀ (P Q : List (Nat × Nat)), flatP (P ++ Q) = flatP P ++ flatP Q
  | [], _ => rfl
  | p :: r, Q => by rw [List.cons_append, flatP, flatP, flatP_app r Q]; rfl
theorem flatP_len : ∀ P : List (Nat × Nat), (flatP P).length = P.length * 2
  | [] => rfl
  | p :: r => by rw [flatP, List.length_cons, List.length_cons, flatP_len r, List.length_cons]; omega
theorem flatP_get : ∀ (P : List (Nat × Nat)) (i : Nat), i < P.length → (flatP P).getD (i * 2) 0 = ((P.getD i (0, 0)).1 : Int) ∧ (flatP P).getD (i * 2 + 1) 0 = ((P.getD i (0, 0)).2 : Int)
  | [], i, h => by simp at h
  | p :: r, 0, _ => ⟨rfl, rfl⟩
  | p :: r, i + 1, h => by
    have := flatP_get r i (by simpa using h)
    rw [flatP, show (i + 1) * 2 = i * 2 + 1 + 1 by omega, List.getD_cons_succ, List.getD_cons_succ, List.getD_cons_succ, List.getD_cons_succ, List.getD_cons_succ]
    exact this
theorem lpI_flat (L : List (List Int)) (k : Nat) : ∀ j, lpI L k j = flatP (lpPI L k j)
  | 0 => rfl
  | j + 1 => by
    rw [lpI, lpPI, flatP_app, lpI_flat L k j]
    split <;> rfl
theorem lpU_flat (L : List (List Int)) : ∀ k, lpU L k = flatP (lpPU L k)
  | 0 => rfl
  | k + 1 => by rw [lpU, lpPU, flatP_app, lpU_flat L k, lpI_flat]
theorem lpL_flat (L : List (List Int)) : lpL L = flatP (lpP L) := lpU_flat L _
theorem lpL_half (L : List (List Int)) : (lpL L).length / 2 = (lpP L).length := by rw [lpL_flat, flatP_len]; omega
def lexP (p q : Nat × Nat) : Prop := p.1 < q.1 ∨ (p.1 = q.1 ∧ p.2 < q.2)
theorem lpPI_mem (L : List (List Int)) (k : Nat) : ∀ j, ∀ p ∈ lpPI L k j, p.1 = k ∧ k < p.2 ∧ p.2 < k + 1 + j
  | 0, p, h => by simp [lpPI] at h
  | j + 1, p, h => by
    rw [lpPI] at h
    rcases List.mem_append.1 h with h | h
    · have := lpPI_mem L k j p h; omega
    · split at h
      · rw [List.mem_singleton.1 h]; simp; omega
      · simp at h
theorem lpPI_asc (L : List (List Int)) (k : Nat) : ∀ j, (lpPI L k j).Pairwise lexP
  | 0 => List.Pairwise.nil
  | j + 1 => by
    rw [lpPI]
    refine List.pairwise_append.2 ⟨lpPI_asc L k j, ?_, fun a ha b hb => ?_⟩
    · split <;> simp
    · have h1 := lpPI_mem L k j a ha
      split at hb
      · rw [List.mem_singleton.1 hb]; exact .inr ⟨h1.1, h1.2.2⟩
      · simp at hb
theorem lpPU_mem (L : List (List Int)) : ∀ k, k ≤ L.length → ∀ p ∈ lpPU L k, p.1 < k ∧ p.1 < p.2 ∧ p.2 < L.length
  | 0, _, p, h => by simp [lpPU] at h
  | k + 1, hk, p, h => by
    rw [lpPU] at h
    rcases List.mem_append.1 h with h | h
    · have := lpPU_mem L k (by omega) p h; omega
    · have := lpPI_mem L k _ p h; omega
theorem lpPU_asc (L : List (List Int)) : ∀ k, k ≤ L.length → (lpPU L k).Pairwise lexP
  | 0, _ => List.Pairwise.nil
  | k + 1, hk => by
    rw [lpPU]
    refine List.pairwise_append.2 ⟨lpPU_asc L k (by omega), lpPI_asc L k _, fun a ha b hb => ?_⟩
    have h1 := lpPU_mem L k (by omega) a ha
    have h2 := lpPI_mem L k _ b hb
    exact .inl (by omega)
/-- What holds of all loops. -/
structure AscP (P : List (Nat × Nat)) (M : Nat) : Prop where
  lex : ∀ i j, i < j → j < P.length → lexP (P.getD i (0, 0)) (P.getD j (0, 0))
  ins : ∀ i, i < P.length → (P.getD i (0, 0)).1 < (P.getD i (0, 0)).2 ∧ (P.getD i (0, 0)).2 < M
theorem getD_pair {P : List (Nat × Nat)} {i : Nat} (h : i < P.length) : P.getD i (0, 0) = P[i] := by
  rw [List.getD_eq_getElem?_getD, List.getElem?_eq_getElem h]; rfl
theorem lpP_asc (L : List (List Int)) : AscP (lpP L) L.length := by
  refine ⟨fun i j hij hj => ?_, fun i hi => ?_⟩
  · have := List.pairwise_iff_getElem.1 (lpPU_asc L L.length (Nat.le_refl _)) i j (by unfold lpP at hj; omega) hj hij
    rw [getD_pair hj, getD_pair (Nat.lt_trans hij hj)]
    exact this
  · have := lpPU_mem L L.length (Nat.le_refl _) ((lpP L)[i]) (List.getElem_mem hi)
    rw [getD_pair hi]
    exact this.2

/-- The greatest end of the first loop's number among the first i loops. -/
def wdP (P : List (Nat × Nat)) : Nat → Nat
  | 0 => (P.getD 0 (0, 0)).2
  | i + 1 => if (P.getD i (0, 0)).1 = (P.getD 0 (0, 0)).1 ∧ wdP P i < (P.getD i (0, 0)).2 then (P.getD i (0, 0)).2 else wdP P i
theorem wd_low {P : List (Nat × Nat)} {M : Nat} (h : AscP P M) {i : Nat} (hi : i < P.length) : (P.getD 0 (0, 0)).1 ≤ (P.getD i (0, 0)).1 := by
  cases i with
  | zero => exact Nat.le_refl _
  | succ i =>
    rcases h.lex 0 (i + 1) (by omega) hi with h1 | h1 <;> omega
theorem wd_same {P : List (Nat × Nat)} {M : Nat} (h : AscP P M) : ∀ i, i < P.length → (P.getD i (0, 0)).1 = (P.getD 0 (0, 0)).1 → wdP P (i + 1) = (P.getD i (0, 0)).2
  | 0, _, _ => by
    rw [wdP, wdP]
    rw [if_neg (by omega)]
  | i + 1, hi, he => by
    have h1 := h.lex i (i + 1) (by omega) hi
    have h2 := wd_low h (i := i) (by omega)
    have he2 : (P.getD i (0, 0)).1 = (P.getD 0 (0, 0)).1 := by
      rcases h1 with h3 | h3 <;> omega
    have ih := wd_same h i (by omega) he2
    rw [wdP, ih, if_pos]
    refine ⟨he, ?_⟩
    rcases h1 with h3 | h3 <;> omega
theorem wd_other {P : List (Nat × Nat)} {i : Nat} (he : ¬ (P.getD i (0, 0)).1 = (P.getD 0 (0, 0)).1) : wdP P (i + 1) = wdP P i := by
  rw [wdP, if_neg (fun h => he h.1)]
theorem wd_rest {P : List (Nat × Nat)} {M : Nat} (h : AscP P M) {i : Nat} (he : ¬ (P.getD i (0, 0)).1 = (P.getD 0 (0, 0)).1) : ∀ d, i + d ≤ P.length → wdP P (i + d) = wdP P i
  | 0, _ => rfl
  | d + 1, hd => by
    have ih := wd_rest h he d (by omega)
    rw [show i + (d + 1) = i + d + 1 by omega]
    have : ¬ (P.getD (i + d) (0, 0)).1 = (P.getD 0 (0, 0)).1 := by
      cases d with
      | zero => exact he
      | succ d =>
        have h1 := h.lex i (i + (d + 1)) (by omega) (by omega)
        have h2 := wd_low h (i := i) (by omega)
        intro e
        rcases h1 with h3 | h3 <;> omega
    rw [wd_other this, ih]
theorem wd_in {P : List (Nat × Nat)} {M : Nat} (h : AscP P M) (h0 : 0 < P.length) : ∀ i, i ≤ P.length → (P.getD 0 (0, 0)).1 < wdP P i ∧ wdP P i < M
  | 0, _ => h.ins 0 h0
  | i + 1, hi => by
    have ih := wd_in h h0 i (by omega)
    have h1 := h.ins i (by omega)
    rw [wdP]
    split
    · rename_i h2
      omega
    · exact ih
/-- The loops of a replay. -/
def lpA (ns fs : List Int) (n : Nat) : List (Nat × Nat) := lpP (rkA ns fs n)
theorem lpF_flat (ns fs : List Int) (n : Nat) : lpF ns fs n = flatP (lpA ns fs n) := lpL_flat _
theorem lpN_len (ns fs : List Int) (n : Nat) : lpN ns fs n = (lpA ns fs n).length := lpL_half _
def ctK (ns fs : List Int) (n : Nat) : Nat := ((lpA ns fs n).getD 0 (0, 0)).1
def ctM (ns fs : List Int) (n : Nat) : Nat := wdP (lpA ns fs n) (lpA ns fs n).length
theorem lpA_ok {ns fs : List Int} {n : Nat} (h : 0 < (lpA ns fs n).length) : (rkA ns fs n).length = n + 1 ∧ AscP (lpA ns fs n) (n + 1) := by
  have h1 : rpOk ns fs n = true := by
    cases hb : rpOk ns fs n with
    | true => rfl
    | false =>
      unfold lpA at h
      rw [rk_no hb] at h
      simp [lpP, lpPU] at h
  have h2 : (rkA ns fs n).length = n + 1 := by rw [rk_yes h1, rks_len]
  refine ⟨h2, ?_⟩
  have := lpP_asc (rkA ns fs n)
  rwa [h2] at this
theorem ct_in {ns fs : List Int} {n : Nat} (h : 0 < (lpA ns fs n).length) : ctK ns fs n < ctM ns fs n ∧ ctM ns fs n ≤ n := by
  have := wd_in (lpA_ok h).2 h _ (Nat.le_refl _)
  unfold ctK ctM
  omega
/-- The widest first loop is cut out, again and again. -/
def ctR (ns : List Int) : Nat → List Int → Nat → List Int × Nat
  | 0, fs, n => (fs, n)
  | t + 1, fs, n => if (lpA ns fs n).length = 0 then (fs, n) else ctR ns t (outF fs (ctK ns fs n) (ctM ns fs n)) (n - (ctM ns fs n - ctK ns fs n))
theorem ct_stop {ns fs : List Int} {n : Nat} (h : (lpA ns fs n).length = 0) : ∀ t, ctR ns t fs n = (fs, n)
  | 0 => rfl
  | t + 1 => by rw [ctR, if_pos h]
theorem ct_step {ns fs : List Int} {n t : Nat} (h : 0 < (lpA ns fs n).length) (ht : n ≤ t) : ∃ t', ctR ns t fs n = ctR ns t' (outF fs (ctK ns fs n) (ctM ns fs n)) (n - (ctM ns fs n - ctK ns fs n)) ∧ n - (ctM ns fs n - ctK ns fs n) ≤ t' ∧ n - (ctM ns fs n - ctK ns fs n) < n := by
  have h1 := ct_in h
  obtain ⟨t', rfl⟩ : ∃ t', t = t' + 1 := ⟨t - 1, by omega⟩
  exact ⟨t', by rw [ctR, if_neg (by omega)], by omega, by omega⟩
theorem ct_le (ns : List Int) : ∀ (t : Nat) (fs : List Int) (n : Nat), (ctR ns t fs n).2 ≤ n
  | 0, fs, n => Nat.le_refl _
  | t + 1, fs, n => by
    rw [ctR]
    split
    · exact Nat.le_refl _
    · exact Nat.le_trans (ct_le ns t _ _) (by omega)
def ctF (ns fs : List Int) (n : Nat) : List Int := (ctR ns n fs n).1
def ctN (ns fs : List Int) (n : Nat) : Nat := (ctR ns n fs n).2
theorem ctN_le (ns fs : List Int) (n : Nat) : orN (rpOk ns fs n) (ctN ns fs n) ≤ 60 := by
  cases h : rpOk ns fs n with
  | false => exact Nat.zero_le _
  | true =>
    have h1 := rp_le h
    have h2 := ct_le ns n fs n
    unfold orN ctN
    rw [if_pos rfl]; omega
end Go.Proofs.Ytalngdccjoafhaa.base
