/-
  Six numbers: renamings, orders, and what they make of arrays; plain mathematics.
-/
import Derived.Test.YtienbokkimnecaaRackOps
namespace Go.Proofs.Ytienbokkimnecaa.base
set_option linter.unusedVariables false
set_option linter.unusedSimpArgs false

/-- The first k of n numbers are f's, the others g's. -/
def mixUp (n : Nat) (f g : Nat → Int) (k : Nat) : List Int := (List.range n).map (fun j => if j < k then f j else g j)
theorem mixUp_len (n : Nat) (f g : Nat → Int) (k : Nat) : (mixUp n f g k).length = n := by unfold mixUp; simp
theorem mixUp_getD (n : Nat) (f g : Nat → Int) (k j : Nat) (h : j < n) : (mixUp n f g k).getD j 0 = if j < k then f j else g j := by
  unfold mixUp
  rw [List.getD_eq_getElem?_getD, List.getElem?_map, List.getElem?_range h]; rfl
theorem mixUp_set (n : Nat) (f g : Nat → Int) (k : Nat) : (mixUp n f g k).set k (f k) = mixUp n f g (k + 1) := by
  apply List.ext_getElem?
  intro j
  unfold mixUp
  rw [List.getElem?_set]
  simp only [List.length_map, List.length_range]
  by_cases e : k = j
  · subst e
    rw [if_pos rfl]
    by_cases h : k < n
    · rw [if_pos h, List.getElem?_map, List.getElem?_range h]; simp
    · rw [if_neg h, List.getElem?_eq_none (by simp; omega)]
  · rw [if_neg e, List.getElem?_map, List.getElem?_map]
    by_cases h : j < n
    · rw [List.getElem?_range h]
      simp only [Option.map_some, Option.some.injEq]
      by_cases h2 : j < k
      · rw [if_pos h2, if_pos (by omega)]
      · rw [if_neg h2, if_neg (by omega)]
    · rw [List.getElem?_eq_none (by simp; omega)]; rfl
theorem list_range {n : Nat} {ns : List Int} (h : ns.length = n) : (List.range n).map (fun j => ns.getD j 0) = ns := by
  apply List.ext_getElem?
  intro j
  rw [List.getElem?_map]
  by_cases hj : j < n
  · rw [List.getElem?_range hj, List.getElem?_eq_getElem (by omega)]
    show some (ns.getD j 0) = _
    rw [List.getD_eq_getElem?_getD, List.getElem?_eq_getElem (by omega)]; rfl
  · rw [List.getElem?_eq_none (by simp; omega), List.getElem?_eq_none (by omega)]; rfl
theorem mixUp_0 (n : Nat) (f : Nat → Int) {ns : List Int} (h : ns.length = n) : mixUp n f (fun j => ns.getD j 0) 0 = ns := by
  unfold mixUp; simp only [Nat.not_lt_zero, if_false]; exact list_range h
theorem mixUp_all (n : Nat) (f g : Nat → Int) : mixUp n f g n = (List.range n).map f := by
  unfold mixUp
  apply List.map_congr_left
  intro j hj
  rw [if_pos (List.mem_range.1 hj)]
theorem mixUp_copy {n : Nat} (g : Nat → Int) {ns : List Int} (h : ns.length = n) : mixUp n (fun j => ns.getD j 0) g n = ns := by
  rw [mixUp_all]; exact list_range h

/-- Place k holds one of 0..5 that is not there before. -/
def newAt (ns : List Int) (k : Nat) : Bool := decide (0 ≤ ns.getD k 0 ∧ ns.getD k 0 ≤ 5) && !decide (ns.getD k 0 ∈ ns.take k)
def permUp (ns : List Int) (k : Nat) : Bool := (List.range k).all (newAt ns)
def permL (ns : List Int) : Bool := permUp ns 6
def namesB (ns : List Int) : Bool := decide (ns.getD 0 0 = 0) && permL ns
theorem permUp_0 (ns : List Int) : permUp ns 0 = true := rfl
theorem permUp_succ (ns : List Int) (k : Nat) : permUp ns (k + 1) = (permUp ns k && newAt ns k) := by
  unfold permUp; rw [List.range_succ, List.all_append]; simp
theorem permL_not {ns : List Int} (k : Nat) (hk : k < 6) (h : newAt ns k = false) : permL ns = false := by
  cases hp : permL ns with
  | false => rfl
  | true =>
    unfold permL permUp at hp
    rw [List.all_eq_true] at hp
    have := hp k (List.mem_range.2 hk)
    rw [h] at this; cases this
theorem newAt_range {ns : List Int} {k : Nat} (h : newAt ns k = true) : 0 ≤ ns.getD k 0 ∧ ns.getD k 0 ≤ 5 := by
  unfold newAt at h; exact of_decide_eq_true (Bool.and_eq_true_iff.1 h).1
theorem perm_range {ns : List Int} (h : permL ns = true) (k : Nat) (hk : k < 6) : 0 ≤ ns.getD k 0 ∧ ns.getD k 0 ≤ 5 := by
  unfold permL permUp at h
  rw [List.all_eq_true] at h
  exact newAt_range (h k (List.mem_range.2 hk))
theorem perm_nat {ns : List Int} (h : permL ns = true) (k : Nat) (hk : k < 6) : ∃ c : Nat, c < 6 ∧ ns.getD k 0 = (c : Int) := by
  have := perm_range h k hk
  exact ⟨(ns.getD k 0).toNat, by omega, by omega⟩
theorem names_perm {ns : List Int} (h : namesB ns = true) : permL ns = true := (Bool.and_eq_true_iff.1 h).2
theorem mem_take_succ (ns : List Int) (k : Nat) (x : Int) (h : k < ns.length) : x ∈ ns.take (k + 1) ↔ x = ns.getD k 0 ∨ x ∈ ns.take k := by
  rw [List.take_succ_eq_append_getElem h, List.mem_append, List.mem_singleton, List.getD_eq_getElem?_getD, List.getElem?_eq_getElem h, Option.getD_some, or_comm]

/-- What takes a renaming back, its first k numbers told. -/
def z6x : List Int := [0, 0, 0, 0, 0, 0]
def backUp (ns : List Int) : Nat → List Int
  | 0 => z6x
  | k + 1 => (backUp ns k).set (ns.getD k 0).toNat (k : Int)
theorem backUp_len (ns : List Int) : ∀ k, (backUp ns k).length = 6
  | 0 => rfl
  | k + 1 => by rw [backUp, List.length_set]; exact backUp_len ns k
def backR (ns : List Int) : List Int := if namesB ns = true then backUp ns 6 else z6x
theorem backR_len (ns : List Int) : (backR ns).length = 6 := by
  unfold backR
  by_cases h : namesB ns = true
  · rw [if_pos h]; exact backUp_len ns 6
  · rw [if_neg h]; rfl

/-- One renaming behind another one. -/
def behF (a b : List Int) (j : Nat) : Int := b.getD (a.getD j 0).toNat 0
def z6f (j : Nat) : Int := z6x.getD j 0
def behUp (a b : List Int) (k : Nat) : List Int := mixUp 6 (behF a b) z6f k
def behOk (a b : List Int) : Bool := namesB a && namesB b
def behR (a b : List Int) : List Int := if behOk a b = true then behUp a b 6 else z6x
theorem behR_len (a b : List Int) : (behR a b).length = 6 := by
  unfold behR
  by_cases h : behOk a b = true
  · rw [if_pos h]; exact mixUp_len _ _ _ _
  · rw [if_neg h]; rfl
theorem behUp_0 (a b : List Int) : behUp a b 0 = z6x := mixUp_0 6 _ (ns := z6x) rfl

/-- A rack renamed, its first k layers told. -/
def renF (ns names : List Int) (j : Nat) : Int := names.getD (ns.getD j 0).toNat 0
def renUp (ns names : List Int) (k : Nat) : List Int := mixUp 24 (renF ns names) (fun j => ns.getD j 0) k
def renR (ns names : List Int) : List Int := renUp ns names 24
theorem renUp_len (ns names : List Int) (k : Nat) : (renUp ns names k).length = 24 := mixUp_len _ _ _ _
theorem renUp_0 {ns : List Int} (names : List Int) (h : ns.length = 24) : renUp ns names 0 = ns := mixUp_0 24 _ h
theorem renUp_old (ns names : List Int) (k j : Nat) (hj : j < 24) (h : k ≤ j) : (renUp ns names k).getD j 0 = ns.getD j 0 := by
  unfold renUp; rw [mixUp_getD _ _ _ _ _ hj, if_neg (by omega)]
theorem renUp_set (ns names : List Int) (k : Nat) : (renUp ns names k).set k (renF ns names k) = renUp ns names (k + 1) := mixUp_set _ _ _ _
def renOk (ns names : List Int) : Bool := vR ns && namesB names
def renA (ns names : List Int) : List Int := if renOk ns names = true then renR ns names else z24
theorem renA_len (ns names : List Int) : (renA ns names).length = 24 := by
  unfold renA
  by_cases h : renOk ns names = true
  · rw [if_pos h]; exact renUp_len _ _ _
  · rw [if_neg h]; rfl

/-- A rack in another order, its first k tubes told. -/
def ordF (ns o : List Int) (j : Nat) : Int := ns.getD ((o.getD (j / 4) 0).toNat * 4 + j % 4) 0
def ordUp (ns o : List Int) (k : Nat) : List Int := mixUp 24 (ordF ns o) (fun j => z24.getD j 0) (k * 4)
theorem ordUp_0 (ns o : List Int) : ordUp ns o 0 = z24 := by
  unfold ordUp; rw [Nat.zero_mul]; exact mixUp_0 24 _ (ns := z24) rfl
theorem ordUp_len (ns o : List Int) (k : Nat) : (ordUp ns o k).length = 24 := mixUp_len _ _ _ _
theorem four_ext {a b : List Int} (ha : a.length = 4) (hb : b.length = 4) (h : ∀ q, q < 4 → a.getD q 0 = b.getD q 0) : a = b := by
  apply List.ext_getElem?
  intro k
  by_cases hk : k < 4
  · have := h k hk
    rw [List.getD_eq_getElem?_getD, List.getD_eq_getElem?_getD, List.getElem?_eq_getElem (by omega), List.getElem?_eq_getElem (by omega)] at this
    rw [List.getElem?_eq_getElem (by omega), List.getElem?_eq_getElem (by omega)]
    simp only [Option.getD_some] at this; rw [this]
  · rw [List.getElem?_eq_none (by omega), List.getElem?_eq_none (by omega)]
theorem tub_ordUp {ns o : List Int} (h : ns.length = 24) (k i : Nat) (hi : i < 6) (hc : (o.getD i 0).toNat < 6) : tub (ordUp ns o k) i = if i < k then tub ns (o.getD i 0).toNat else tub z24 i := by
  refine four_ext (tub_len _ i (ordUp_len ns o k) hi) (by split; exact tub_len ns _ h hc; exact tub_len z24 i rfl hi) (fun q hq => ?_)
  rw [tub_getD _ i q hq]
  unfold ordUp
  rw [mixUp_getD _ _ _ _ _ (by omega)]
  have e1 : (i * 4 + q) / 4 = i := by omega
  have e2 : (i * 4 + q) % 4 = q := by omega
  by_cases hk : i < k
  · rw [if_pos (by omega), if_pos hk, tub_getD _ _ q hq]
    unfold ordF
    rw [e1, e2]
  · rw [if_neg (by omega), if_neg hk, tub_getD _ _ q hq]
theorem ordUp_step {ns o : List Int} (h : ns.length = 24) (ho : permL o = true) (k c : Nat) (hk : k < 6) (hc : c < 6) (e : o.getD k 0 = (c : Int)) : setTub (ordUp ns o k) k (tub ns c) = ordUp ns o (k + 1) := by
  have t4 := tub_len ns c h hc
  have hl := ordUp_len ns o k
  refine rack_ext (setTub_len _ _ _ hl hk t4) (ordUp_len ns o (k + 1)) (fun i hi => ?_)
  have hr := perm_range ho i hi
  rw [tub_ordUp h (k + 1) i hi (by omega)]
  by_cases ei : k = i
  · subst ei
    rw [tub_setTub _ _ _ hl hk t4, if_pos (by omega), e]; rfl
  · rw [tub_setTub_other _ k i _ hl hk hi t4 ei, tub_ordUp h k i hi (by omega)]
    by_cases h2 : i < k
    · rw [if_pos h2, if_pos (by omega)]
    · rw [if_neg h2, if_neg (by omega)]
def ordOk (ns o : List Int) : Bool := vR ns && permL o
def ordR (ns o : List Int) : List Int := if ordOk ns o = true then ordUp ns o 6 else z24
theorem ordR_len {ns : List Int} (o : List Int) (h : ns.length = 24) : (ordR ns o).length = 24 := by
  unfold ordR
  by_cases hb : ordOk ns o = true
  · rw [if_pos hb]; exact ordUp_len _ _ _
  · rw [if_neg hb]; rfl
theorem index6 (T : TypeId) (hT : Try.prog.underlying T = some (.array 6 3)) (ns : List Int) (hn : ns.length = 6) (k : Nat) (hk : k < 6) (w : World) : (Instr.index T (.agg (ints ns).toArray) (.int .i64 (k : Nat))).run Try.prog w = .ok (.int .i64 (ns.getD k 0)) w :=
  run_index_int T 3 6 hT Try.underlying3 (fun w => by rw [Try.sizeOf3]) ns hn k hk w
end Go.Proofs.Ytienbokkimnecaa.base
