/-
  Games: the racks behind so many turns, and the values at them: plain mathematics.
-/
import Derived.Test.YtnldnjnnjfbhnabGmM
namespace Go.Proofs.Ytnldnjnnjfbhnab.base
set_option linter.unusedVariables false
set_option linter.unusedSimpArgs false

def insG (S : List (List Int)) (t : List Int) : List (List Int) := if t ∈ S then S else S ++ [t]
/-- S, and the first k racks behind one turn of ns. -/
def grG (ns : List Int) (S : List (List Int)) : Nat → List (List Int)
  | 0 => S
  | k + 1 => insG (grG ns S k) (nxR ns k)
/-- The racks behind one turn of the first i racks of L. -/
def grL (L : List (List Int)) : Nat → List (List Int)
  | 0 => []
  | i + 1 => grG (L.getD i []) (grL L i) (usefNA (L.getD i []))
def lvG (r : List Int) : Nat → List (List Int)
  | 0 => [r]
  | k + 1 => grL (lvG r k) (lvG r k).length
theorem insG_len (S : List (List Int)) (t : List Int) : S.length ≤ (insG S t).length ∧ (insG S t).length ≤ S.length + 1 := by
  unfold insG; split
  · omega
  · rw [List.length_append, List.length_singleton]; omega
theorem insG_mem (S : List (List Int)) (t x : List Int) : x ∈ insG S t ↔ x ∈ S ∨ x = t := by
  unfold insG; split
  · rename_i h
    exact ⟨.inl, fun e => e.elim id (fun e => e ▸ h)⟩
  · rw [List.mem_append, List.mem_singleton]
theorem insG_nodup {S : List (List Int)} (h : S.Nodup) (t : List Int) : (insG S t).Nodup := by
  unfold insG; split
  · exact h
  · rename_i h2
    exact List.nodup_append.2 ⟨h, by simp, fun a ha b hb => by rw [List.mem_singleton] at hb; subst hb; exact fun e => h2 (e ▸ ha)⟩
theorem grG_len (ns : List Int) (S : List (List Int)) : ∀ k, S.length ≤ (grG ns S k).length ∧ (grG ns S k).length ≤ S.length + k
  | 0 => by rw [grG]; omega
  | k + 1 => by
    have h1 := grG_len ns S k
    have h2 := insG_len (grG ns S k) (nxR ns k)
    rw [grG]; omega
theorem grG_mem (ns : List Int) (S : List (List Int)) (x : List Int) : ∀ k, x ∈ grG ns S k ↔ x ∈ S ∨ ∃ j, j < k ∧ x = nxR ns j
  | 0 => by rw [grG]; exact ⟨.inl, fun h => h.elim id (fun ⟨j, hj, _⟩ => by omega)⟩
  | k + 1 => by
    rw [grG, insG_mem, grG_mem ns S x k]
    constructor
    · rintro ((h | ⟨j, hj, e⟩) | h)
      · exact .inl h
      · exact .inr ⟨j, by omega, e⟩
      · exact .inr ⟨k, by omega, h⟩
    · rintro (h | ⟨j, hj, e⟩)
      · exact .inl (.inl h)
      · by_cases hjk : j = k
        · subst hjk; exact .inr e
        · exact .inl (.inr ⟨j, by omega, e⟩)
theorem grG_nodup {ns : List Int} {S : List (List Int)} (h : S.Nodup) : ∀ k, (grG ns S k).Nodup
  | 0 => h
  | k + 1 => by rw [grG]; exact insG_nodup (grG_nodup h k) _
theorem grL_len (L : List (List Int)) : ∀ i, (grL L i).length ≤ 30 * i
  | 0 => by rw [grL]; simp
  | i + 1 => by
    have h1 := grL_len L i
    have h2 := (grG_len (L.getD i []) (grL L i) (usefNA (L.getD i []))).2
    have h3 := use30 (L.getD i [])
    rw [grL]; omega
theorem grL_nodup (L : List (List Int)) : ∀ i, (grL L i).Nodup
  | 0 => by rw [grL]; exact List.nodup_nil
  | i + 1 => by rw [grL]; exact grG_nodup (grL_nodup L i) _
theorem grL_mem (L : List (List Int)) (x : List Int) : ∀ i, x ∈ grL L i ↔ ∃ j, j < i ∧ ∃ k, k < usefNA (L.getD j []) ∧ x = nxR (L.getD j []) k
  | 0 => by rw [grL]; exact ⟨fun h => absurd h List.not_mem_nil, fun ⟨j, hj, _⟩ => by omega⟩
  | i + 1 => by
    rw [grL, grG_mem, grL_mem L x i]
    constructor
    · rintro (⟨j, hj, k, hk, e⟩ | ⟨k, hk, e⟩)
      · exact ⟨j, by omega, k, hk, e⟩
      · exact ⟨i, by omega, k, hk, e⟩
    · rintro ⟨j, hj, k, hk, e⟩
      by_cases hji : j = i
      · subst hji; exact .inr ⟨k, hk, e⟩
      · exact .inl ⟨j, by omega, k, hk, e⟩
theorem getG {L : List (List Int)} {i : Nat} (h : i < L.length) : L.getD i [] ∈ L := by
  rw [List.getD_eq_getElem?_getD, List.getElem?_eq_getElem h]; exact List.getElem_mem h
theorem grL_good {L : List (List Int)} (g : ∀ x ∈ L, GR x) (i : Nat) (hi : i ≤ L.length) : ∀ x ∈ grL L i, GR x := by
  intro x hx
  obtain ⟨j, hj, k, hk, rfl⟩ := (grL_mem L x i).1 hx
  exact nx_good (g _ (getG (by omega))) k hk
theorem grG_good {ns : List Int} {S : List (List Int)} (G : GR ns) (g : ∀ x ∈ S, GR x) (k : Nat) (hk : k ≤ usefNA ns) : ∀ x ∈ grG ns S k, GR x := by
  intro x hx
  rcases (grG_mem ns S x k).1 hx with h | ⟨j, hj, rfl⟩
  · exact g x h
  · exact nx_good G j (by omega)
theorem lvG_good {r : List Int} (G : GR r) : ∀ k, ∀ x ∈ lvG r k, GR x
  | 0 => by rw [lvG]; intro x hx; rw [List.mem_singleton] at hx; subst hx; exact G
  | k + 1 => by rw [lvG]; exact grL_good (lvG_good G k) _ (Nat.le_refl _)
theorem lvG_nodup (r : List Int) : ∀ k, (lvG r k).Nodup
  | 0 => by rw [lvG]; simp
  | k + 1 => by rw [lvG]; exact grL_nodup _ _
theorem lvG_len (r : List Int) : (lvG r 0).length = 1 ∧ (lvG r 1).length ≤ 30 ∧ (lvG r 2).length ≤ 900 := by
  have h0 : (lvG r 0).length = 1 := rfl
  have h1 := grL_len (lvG r 0) (lvG r 0).length
  have h2 := grL_len (lvG r 1) (lvG r 1).length
  have e1 : lvG r 1 = grL (lvG r 0) (lvG r 0).length := rfl
  have e2 : lvG r 2 = grL (lvG r 1) (lvG r 1).length := rfl
  rw [← e1] at h1
  rw [← e2] at h2
  omega
theorem lvG_900 (r : List Int) (k : Nat) (hk : k ≤ 2) : (lvG r k).length ≤ 900 := by
  have h := lvG_len r
  match k, hk with
  | 0, _ => omega
  | 1, _ => omega
  | 2, _ => omega
theorem lvG_has (r : List Int) (k : Nat) (x : List Int) (hx : x ∈ lvG r k) (j : Nat) (hj : j < usefNA x) : nxR x j ∈ lvG r (k + 1) := by
  obtain ⟨i, hi, e⟩ := List.mem_iff_getElem.1 hx
  have e2 : (lvG r k).getD i [] = x := by rw [List.getD_eq_getElem?_getD, List.getElem?_eq_getElem hi]; exact e
  rw [lvG, grL_mem]
  exact ⟨i, hi, j, by rw [e2]; exact hj, by rw [e2]⟩

/-! values kept by racks, 0 elsewhere -/
def nxV (pt : List Int → Nat → Int) (no : Int) (V : List Int → Int) (L : List (List Int)) : List Int → Int := fun l => if l ∈ L then gbest pt no V l else 0
def kG (r : List Int) (n : Nat) : Nat → List (List Int)
  | 0 => []
  | j + 1 => lvG r (n - (j + 1))
def vG (pt : List Int → Nat → Int) (no : Int) (r : List Int) (n : Nat) : Nat → List Int → Int
  | 0 => fun _ => 0
  | j + 1 => nxV pt no (vG pt no r n j) (lvG r (n - (j + 1)))
theorem vG_out (pt : List Int → Nat → Int) (no : Int) (r : List Int) (n j : Nat) (l : List Int) (h : l ∉ kG r n j) : vG pt no r n j l = 0 := by
  cases j with
  | zero => rfl
  | succ j =>
    show nxV pt no _ _ l = 0
    unfold nxV; exact if_neg h
theorem vG_is (pt : List Int → Nat → Int) (no : Int) (r : List Int) (n : Nat) : ∀ j, j ≤ n → ∀ l ∈ lvG r (n - j), 0 < j → vG pt no r n j l = gval pt no j l
  | 0, _, l, _, h => by omega
  | j + 1, hj, l, hl, _ => by
    show nxV pt no (vG pt no r n j) (lvG r (n - (j + 1))) l = gbest pt no (gval pt no j) l
    unfold nxV; rw [if_pos hl]
    refine gbest_congr fun k hk => ?_
    cases j with
    | zero => rfl
    | succ j =>
      have := lvG_has r _ l hl k hk
      rw [show n - (j + 1 + 1) + 1 = n - (j + 1) by omega] at this
      exact vG_is pt no r n (j + 1) (by omega) _ this (by omega)
theorem vG_best (pt : List Int → Nat → Int) (no : Int) (r : List Int) (n : Nat) : gbest pt no (vG pt no r (n + 1) n) r = gval pt no (n + 1) r ∧ ∀ k, k < usefNA r → vG pt no r (n + 1) n (nxR r k) = gval pt no n (nxR r k) := by
  have h : ∀ k, k < usefNA r → vG pt no r (n + 1) n (nxR r k) = gval pt no n (nxR r k) := fun k hk => by
    cases n with
    | zero => rfl
    | succ n =>
      have h1 := lvG_has r 0 r (List.mem_singleton.2 rfl) k hk
      refine vG_is pt no r (n + 1 + 1) (n + 1) (by omega) _ ?_ (by omega)
      rw [show n + 1 + 1 - (n + 1) = 0 + 1 by omega]; exact h1
  exact ⟨by show _ = gbest pt no (gval pt no n) r; exact gbest_congr h, h⟩
/-- What holds of both games. -/
structure Gam (pt : List Int → Nat → Int) (no : Int) : Prop where
  pt6 : ∀ ns k, -6 ≤ pt ns k ∧ pt ns k ≤ 6
  no1 : -1 ≤ no ∧ no ≤ 0
theorem gamE : Gam ptE (-1) := ⟨fun ns k => by unfold ptE; omega, by omega⟩
theorem gamT : Gam ptT 0 := ⟨ptT_in, by omega⟩
theorem vG_in {pt : List Int → Nat → Int} {no : Int} (g : Gam pt no) (r : List Int) (n : Nat) : ∀ (j : Nat) (l : List Int), -6 * (j : Int) ≤ vG pt no r n j l ∧ vG pt no r n j l ≤ 6 * j
  | 0, l => by
    have : vG pt no r n 0 l = 0 := rfl
    rw [this]; omega
  | j + 1, l => by
    have h := gbest_in (pt := pt) (no := no) g.pt6 (vG_in g r n j) (by have := g.no1; omega) l
    have e : vG pt no r n (j + 1) l = if l ∈ lvG r (n - (j + 1)) then gbest pt no (vG pt no r n j) l else 0 := rfl
    rw [e]
    split <;> omega
/-- The values while the first i racks of a level are put. -/
def vI (pt : List Int → Nat → Int) (no : Int) (V : List Int → Int) (L : List (List Int)) (i : Nat) : List Int → Int := nxV pt no V (L.take i)
theorem take_oneG {L : List (List Int)} {i : Nat} (h : i < L.length) : L.take (i + 1) = L.take i ++ [L.getD i []] := by
  rw [List.take_succ_eq_append_getElem h, List.getD_eq_getElem?_getD, List.getElem?_eq_getElem h]; rfl
theorem take_newG {L : List (List Int)} (hn : L.Nodup) {i : Nat} (h : i < L.length) : L.getD i [] ∉ L.take i := by
  intro hm
  have h1 : (L.take i ++ [L.getD i []]).Nodup := by rw [← take_oneG h]; exact (List.take_sublist _ _).nodup hn
  exact (List.nodup_append.1 h1).2.2 _ hm _ (List.mem_singleton.2 rfl) rfl
end Go.Proofs.Ytnldnjnnjfbhnab.base
