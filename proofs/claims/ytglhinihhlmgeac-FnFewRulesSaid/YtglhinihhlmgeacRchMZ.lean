/-
  Racks that pours by a rule lead to: plain mathematics.
-/
/-
  Racks as keys of a map.
-/
import Derived.Test.YtglhinihhlmgeacInP
import Derived.Test.YtglhinihhlmgeacMapV
import Derived.Test.YtglhinihhlmgeacTubeWZ

section
namespace Go.Proofs.Ytglhinihhlmgeac.base
set_option linter.unusedVariables false
set_option linter.unusedSimpArgs false

def pAt (ns ds : List Int) (x : Int) (j : Nat) : Nat := ((pF (byP ns ds x) 36).getD (j * 2) 0).toNat
def qAt (ns ds : List Int) (x : Int) (j : Nat) : Nat := ((pF (byP ns ds x) 36).getD (j * 2 + 1) 0).toNat
/-- The rack behind the j-th pour. -/
def nbAt (ns ds : List Int) (x : Int) (j : Nat) : List Int := moveT ns (pAt ns ds x j) (qAt ns ds x j) (mvN ns ds x (pAt ns ds x j) (qAt ns ds x j))
def nbN (ds : List Int) (x : Int) (r : List Int) : Nat := pN (byP r ds x) 36
structure GoodR (ds r : List Int) : Prop where
  len : r.length = 24
  fit : fitA r ds = true
theorem fit_move {ns ds : List Int} {x : Int} {p q : Nat} (h24 : ns.length = 24) (h : fitA ns ds = true) (hp : p < 6) (hq : q < 6) (hpos : 0 < mvN ns ds x p q) : GoodR ds (moveT ns p q (mvN ns ds x p q)) := by
  have M := mv_moveOk h24 h hp hq hpos
  obtain ⟨h1, h2, h3⟩ := fit_of h
  refine ⟨M.len24, ?_⟩
  unfold fitA okD
  rw [M.valid, h2, Bool.true_and, Bool.true_and]
  unfold inD
  rw [List.all_eq_true]
  intro i hi
  have hi6 := List.mem_range.1 hi
  rw [lay_many M.len24 M.valid i hi6]
  have a := inD_at h3 i hi6
  rw [lay_many h24 h1 i hi6] at a
  refine decide_eq_true ?_
  by_cases e1 : i = p
  · subst e1; rw [M.layP]; omega
  · by_cases e2 : i = q
    · subst e2
      rw [M.layQ]
      have R := room_eq h24 h i hi6
      have L := (mvT_le x (tub ns p) (tub ns i) (roomD ns ds i)).2
      have E : mvN ns ds x p i = mvT x (tub ns p) (tub ns i) (roomD ns ds i) := by unfold mvN; rw [if_neg M.ne]
      omega
    · rw [M.tubO i hi6 e1 e2]; exact a
theorem nb_at {ns ds : List Int} {x : Int} {j : Nat} (G : GoodR ds ns) (hj : j < nbN ds x ns) : pAt ns ds x j < 6 ∧ qAt ns ds x j < 6 ∧ 0 < mvN ns ds x (pAt ns ds x j) (qAt ns ds x j) ∧
    (pF (byP ns ds x) 36).getD (j * 2) 0 = ((pAt ns ds x j : Nat) : Int) ∧ (pF (byP ns ds x) 36).getD (j * 2 + 1) 0 = ((qAt ns ds x j : Nat) : Int) := by
  obtain ⟨p, q, hp, hq, hP, e1, e2⟩ := in_pF (byP ns ds x) 36 (Nat.le_refl _) j hj
  have a : pAt ns ds x j = p := by unfold pAt; rw [e1]; simp
  have b : qAt ns ds x j = q := by unfold qAt; rw [e2]; simp
  rw [a, b]
  exact ⟨hp, hq, of_decide_eq_true hP, e1, e2⟩
theorem nb_good {ns ds : List Int} {x : Int} {j : Nat} (G : GoodR ds ns) (hj : j < nbN ds x ns) : GoodR ds (nbAt ns ds x j) := by
  obtain ⟨h1, h2, h3, _⟩ := nb_at G hj
  exact fit_move G.len G.fit h1 h2 h3
def insL (S : List (List Int)) (t : List Int) : List (List Int) := if t ∈ S then S else S ++ [t]
def growR (ds : List Int) (x : Int) (S : List (List Int)) (r : List Int) : Nat → List (List Int)
  | 0 => S
  | k + 1 => insL (growR ds x S r k) (nbAt r ds x k)
def growL (ds : List Int) (x : Int) (S L : List (List Int)) : Nat → List (List Int)
  | 0 => S
  | i + 1 => growR ds x (growL ds x S L i) (L.getD i []) (nbN ds x (L.getD i []))
theorem nbN_le (ds : List Int) (x : Int) (r : List Int) : nbN ds x r ≤ 36 := pN_le _ 36
section
variable {ds : List Int} {x : Int} {S L : List (List Int)} {r t : List Int}
theorem insL_pre (S : List (List Int)) (t : List Int) : ∃ B, insL S t = S ++ B ∧ B.length ≤ 1 := by
  unfold insL
  split
  · exact ⟨[], by simp, by simp⟩
  · exact ⟨[t], rfl, by simp⟩
theorem mem_insL : t ∈ insL S t := by
  unfold insL
  by_cases h : t ∈ S
  · rw [if_pos h]; exact h
  · rw [if_neg h]; exact List.mem_append_right _ (List.mem_singleton.2 rfl)
theorem growR_pre (ds : List Int) (x : Int) (S : List (List Int)) (r : List Int) : ∀ k, ∃ B, growR ds x S r k = S ++ B ∧ B.length ≤ k
  | 0 => ⟨[], by rw [growR]; simp, by simp⟩
  | k + 1 => by
    obtain ⟨B, h1, h2⟩ := growR_pre ds x S r k
    obtain ⟨C, h3, h4⟩ := insL_pre (growR ds x S r k) (nbAt r ds x k)
    refine ⟨B ++ C, by rw [growR, h3, h1, List.append_assoc], by rw [List.length_append]; omega⟩
theorem growL_pre (ds : List Int) (x : Int) (S L : List (List Int)) : ∀ i, ∃ B, growL ds x S L i = S ++ B ∧ B.length ≤ 36 * i
  | 0 => ⟨[], by rw [growL]; simp, by simp⟩
  | i + 1 => by
    obtain ⟨B, h1, h2⟩ := growL_pre ds x S L i
    obtain ⟨C, h3, h4⟩ := growR_pre ds x (growL ds x S L i) (L.getD i []) (nbN ds x (L.getD i []))
    have := nbN_le ds x (L.getD i [])
    refine ⟨B ++ C, by rw [growL, h3, h1, List.append_assoc], by rw [List.length_append]; omega⟩
theorem growR_len (k : Nat) : S.length ≤ (growR ds x S r k).length ∧ (growR ds x S r k).length ≤ S.length + k := by
  obtain ⟨B, h1, h2⟩ := growR_pre ds x S r k
  rw [h1, List.length_append]; omega
theorem growL_len (i : Nat) : S.length ≤ (growL ds x S L i).length ∧ (growL ds x S L i).length ≤ S.length + 36 * i := by
  obtain ⟨B, h1, h2⟩ := growL_pre ds x S L i
  rw [h1, List.length_append]; omega
theorem growR_old (hm : t ∈ S) (k : Nat) : t ∈ growR ds x S r k := by
  obtain ⟨B, h1, _⟩ := growR_pre ds x S r k
  rw [h1]; exact List.mem_append_left _ hm
theorem growL_old (hm : t ∈ S) (i : Nat) : t ∈ growL ds x S L i := by
  obtain ⟨B, h1, _⟩ := growL_pre ds x S L i
  rw [h1]; exact List.mem_append_left _ hm
theorem growR_all (G : ∀ t ∈ S, GoodR ds t) (g : GoodR ds r) : ∀ k, k ≤ nbN ds x r → ∀ t ∈ growR ds x S r k, GoodR ds t
  | 0, _ => by rw [growR]; exact G
  | k + 1, hk => by
    have ih := growR_all G g k (by omega)
    rw [growR]
    intro t ht
    unfold insL at ht
    by_cases h : nbAt r ds x k ∈ growR ds x S r k
    · rw [if_pos h] at ht; exact ih t ht
    · rw [if_neg h] at ht
      rcases List.mem_append.1 ht with h1 | h1
      · exact ih t h1
      · rw [List.mem_singleton.1 h1]; exact nb_good g (by omega)
theorem getD_inL {L : List (List Int)} {i : Nat} (h : i < L.length) : L.getD i [] ∈ L := by
  rw [List.getD_eq_getElem?_getD, List.getElem?_eq_getElem h]; exact List.getElem_mem h
theorem growL_all (G : ∀ t ∈ S, GoodR ds t) (g : ∀ t ∈ L, GoodR ds t) : ∀ i, i ≤ L.length → ∀ t ∈ growL ds x S L i, GoodR ds t
  | 0, _ => by rw [growL]; exact G
  | i + 1, hi => by
    have ih := growL_all G g i (by omega)
    rw [growL]
    exact growR_all ih (g _ (getD_inL (by omega))) _ (Nat.le_refl _)
theorem growR_has (r : List Int) : ∀ k j, j < k → nbAt r ds x j ∈ growR ds x S r k
  | 0, j, h => by omega
  | k + 1, j, h => by
    rw [growR]
    by_cases e : j = k
    · subst e; exact mem_insL
    · obtain ⟨B, h1, _⟩ := insL_pre (growR ds x S r k) (nbAt r ds x k)
      rw [h1]; exact List.mem_append_left _ (growR_has r k j (by omega))
theorem growL_has : ∀ n i j, i < n → j < nbN ds x (L.getD i []) → nbAt (L.getD i []) ds x j ∈ growL ds x S L n
  | 0, i, j, h, _ => by omega
  | n + 1, i, j, h, hj => by
    rw [growL]
    by_cases e : i = n
    · subst e; exact growR_has _ _ j hj
    · exact growR_old (growL_has n i j (by omega) hj) _
theorem growR_same : ∀ k, (∀ j, j < k → nbAt r ds x j ∈ S) → growR ds x S r k = S
  | 0, _ => rfl
  | k + 1, h => by
    rw [growR, growR_same k (fun j hj => h j (by omega))]
    unfold insL; rw [if_pos (h k (by omega))]
theorem getD_appL {O L : List (List Int)} {i : Nat} (h : i < O.length) : (O ++ L).getD i [] = O.getD i [] := by
  rw [List.getD_eq_getElem?_getD, List.getD_eq_getElem?_getD, List.getElem?_append_left h]
theorem getD_appR {O L : List (List Int)} {i : Nat} : (O ++ L).getD (O.length + i) [] = L.getD i [] := by
  rw [List.getD_eq_getElem?_getD, List.getD_eq_getElem?_getD, List.getElem?_append_right (by omega), Nat.add_sub_cancel_left]
theorem growL_skip {O : List (List Int)} (h : ∀ o ∈ O, ∀ j, j < nbN ds x o → nbAt o ds x j ∈ S) : ∀ i, i ≤ O.length → growL ds x S (O ++ L) i = S
  | 0, _ => rfl
  | i + 1, hi => by
    rw [growL, growL_skip h i (by omega), getD_appL (by omega)]
    exact growR_same _ (h _ (getD_inL (by omega)))
theorem growL_app {O : List (List Int)} (h : ∀ o ∈ O, ∀ j, j < nbN ds x o → nbAt o ds x j ∈ S) : ∀ i, growL ds x S (O ++ L) (O.length + i) = growL ds x S L i
  | 0 => growL_skip h _ (Nat.le_refl _)
  | i + 1 => by
    rw [show O.length + (i + 1) = (O.length + i) + 1 by omega, growL, growL_app h i, getD_appR, growL]
end
/-- The racks seen and the last level, as the program has them. -/
def rkP (ds : List Int) (x : Int) (r : List Int) : Nat → List (List Int) × List (List Int)
  | 0 => ([r], [r])
  | i + 1 => (growL ds x (rkP ds x r i).1 (rkP ds x r i).2 (rkP ds x r i).2.length, (growL ds x (rkP ds x r i).1 (rkP ds x r i).2 (rkP ds x r i).2.length).drop (rkP ds x r i).1.length)
/-- All racks, as the model has them. -/
def rkM (ds : List Int) (x : Int) (r : List Int) : Nat → List (List Int)
  | 0 => [r]
  | i + 1 => growL ds x (rkM ds x r i) (rkM ds x r i) (rkM ds x r i).length
theorem rk_inv (ds : List Int) (x : Int) (r : List Int) : ∀ i, ∃ O, (rkP ds x r i).1 = O ++ (rkP ds x r i).2 ∧ ∀ o ∈ O, ∀ j, j < nbN ds x o → nbAt o ds x j ∈ (rkP ds x r i).1
  | 0 => ⟨[], rfl, fun o h => absurd h List.not_mem_nil⟩
  | i + 1 => by
    obtain ⟨O, h1, h2⟩ := rk_inv ds x r i
    obtain ⟨B, h3, _⟩ := growL_pre ds x (rkP ds x r i).1 (rkP ds x r i).2 (rkP ds x r i).2.length
    have e2 : (rkP ds x r (i + 1)).2 = B := by
      show (growL ds x (rkP ds x r i).1 (rkP ds x r i).2 (rkP ds x r i).2.length).drop (rkP ds x r i).1.length = B
      rw [h3, List.drop_append_of_le_length (Nat.le_refl _), List.drop_length, List.nil_append]
    have e1 : (rkP ds x r (i + 1)).1 = growL ds x (rkP ds x r i).1 (rkP ds x r i).2 (rkP ds x r i).2.length := rfl
    refine ⟨(rkP ds x r i).1, by rw [e1, e2, h3], fun o ho j hj => ?_⟩
    rw [e1]
    rw [h1] at ho
    rcases List.mem_append.1 ho with h4 | h4
    · exact growL_old (h2 o h4 j hj) _
    · obtain ⟨k, hk, e⟩ := List.mem_iff_getElem.1 h4
      have eo : (rkP ds x r i).2.getD k [] = o := by rw [List.getD_eq_getElem?_getD, List.getElem?_eq_getElem hk, e]; rfl
      have := growL_has (ds := ds) (x := x) (S := (rkP ds x r i).1) (L := (rkP ds x r i).2) (rkP ds x r i).2.length k j hk (by rw [eo]; exact hj)
      rw [eo] at this; exact this
theorem rk_same (ds : List Int) (x : Int) (r : List Int) : ∀ i, rkM ds x r i = (rkP ds x r i).1
  | 0 => rfl
  | i + 1 => by
    have ih := rk_same ds x r i
    obtain ⟨O, h1, h2⟩ := rk_inv ds x r i
    rw [rkM, ih]
    show growL ds x (rkP ds x r i).1 (rkP ds x r i).1 (rkP ds x r i).1.length = growL ds x (rkP ds x r i).1 (rkP ds x r i).2 (rkP ds x r i).2.length
    have e : growL ds x (rkP ds x r i).1 (rkP ds x r i).1 (rkP ds x r i).1.length = growL ds x (rkP ds x r i).1 (O ++ (rkP ds x r i).2) (O.length + (rkP ds x r i).2.length) := by
      rw [← h1, ← List.length_append, ← h1]
    rw [e, growL_app h2]
theorem rk_good {ds : List Int} {x : Int} {r : List Int} (g : GoodR ds r) : ∀ i, (∀ t ∈ (rkP ds x r i).1, GoodR ds t) ∧ ∀ t ∈ (rkP ds x r i).2, GoodR ds t
  | 0 => ⟨fun t h => by rw [List.mem_singleton.1 h]; exact g, fun t h => by rw [List.mem_singleton.1 h]; exact g⟩
  | i + 1 => by
    have ih := rk_good (x := x) g i
    have a := growL_all (x := x) ih.1 ih.2 _ (Nat.le_refl _)
    exact ⟨a, fun t h => a t (List.mem_of_mem_drop h)⟩
theorem rk_len (ds : List Int) (x : Int) (r : List Int) : (rkP ds x r 0).1.length = 1 ∧ (rkP ds x r 0).2.length = 1 ∧ (rkP ds x r 1).1.length ≤ 37 ∧ (rkP ds x r 1).2.length ≤ 36 ∧ (rkP ds x r 2).1.length ≤ 1333 ∧ (rkP ds x r 2).2.length ≤ 1296 ∧ (rkP ds x r 3).1.length ≤ 47989 ∧ (rkP ds x r 3).2.length ≤ 46656 := by
  have st : ∀ i, (rkP ds x r (i + 1)).1.length ≤ (rkP ds x r i).1.length + 36 * (rkP ds x r i).2.length ∧ (rkP ds x r (i + 1)).2.length ≤ 36 * (rkP ds x r i).2.length := fun i => by
    have a := growL_len (ds := ds) (x := x) (S := (rkP ds x r i).1) (L := (rkP ds x r i).2) (rkP ds x r i).2.length
    refine ⟨a.2, ?_⟩
    show ((growL ds x (rkP ds x r i).1 (rkP ds x r i).2 (rkP ds x r i).2.length).drop (rkP ds x r i).1.length).length ≤ _
    rw [List.length_drop]; omega
  have z1 : (rkP ds x r 0).1.length = 1 := rfl
  have z2 : (rkP ds x r 0).2.length = 1 := rfl
  have a := st 0
  have b := st 1
  have c := st 2
  simp only [Nat.zero_add, Nat.reduceAdd] at a b c
  omega
end Go.Proofs.Ytglhinihhlmgeac.base
end

section
namespace Go.Proofs.Ytglhinihhlmgeac.base
open Go.ChangeShapes Go.WideShapes Go.ChangeAt Go.RowKit Go.Maps
set_option linter.unusedVariables false
set_option linter.unusedSimpArgs false

theorem wf_lit8 {z : Int} (h0 : 0 ≤ z) (h5 : z ≤ 5) : (Lit.int .i64 z).wf = true := by
  simp only [Lit.wf, IntKind.min, IntKind.max, IntKind.signed, IntKind.bits, Bool.and_eq_true, decide_eq_true_eq, if_true]
  omega
theorem rack_row8 {ns : List Int} (h24 : ns.length = 24) (hv : vR ns = true) : KeyRow 24 ns := by
  refine ⟨h24, fun z hz => ?_⟩
  obtain ⟨j, hj, e⟩ := List.mem_iff_getElem.1 hz
  have hp : j / 4 < 6 := by omega
  have h4 := tub_len ns (j / 4) h24 hp
  have hk : known (tub ns (j / 4)) = true := by have := vR_tub hv (j / 4) hp; unfold vT at this; exact (Bool.and_eq_true_iff.1 this).1
  have hm : z ∈ tub ns (j / 4) := by
    have g : (tub ns (j / 4)).getD (j % 4) 0 = z := by
      rw [tub_getD ns _ _ (by omega), Nat.div_add_mod', List.getD_eq_getElem?_getD, List.getElem?_eq_getElem hj, Option.getD_some, e]
    rw [← g, List.getD_eq_getElem?_getD, List.getElem?_eq_getElem (by omega)]
    exact List.getElem_mem _
  have := of_decide_eq_true (List.all_eq_true.1 hk z hm)
  exact wf_lit8 this.1 this.2
theorem keyLits_st {P : Program} {T t c e : TypeId} {f : Field} (hT : P.underlying T = some (.struct #[f])) (hn : (f.name != "_") = true) (ho : f.offset = 0) (hf : f.type = t) (ht : P.underlying t = some (.array 6 c)) (hc : P.underlying c = some (.array 4 e)) (he : P.underlying e = some (.int .i64)) (hce : P.cellsOf e = 1) (hcc : P.cellsOf c = 4) (hct : P.cellsOf t = 24) (hcT : P.cellsOf T = 24) (d : Nat) (ns : List Int) (hl : ns.length = 24) (hw : WfL ns) :
    P.keyLits (d + 4) T (ints ns) = some (ns.map (Lit.int .i64)) := by
  have hk := keyLits_rack ht hc he hce hcc hct d ns hl hw
  have hlen : (ints ns).length = 24 := by rw [ints_len]; exact hl
  conv => lhs; unfold Program.keyLits
  have e1 : List.take 24 (ints ns) = ints ns := List.take_of_length_le (by omega)
  simp [hT, hcT, hlen, hn, ho, hf, hct, e1, hk]
theorem keyOf_st {P : Program} {T t c e : TypeId} {f : Field} (hT : P.underlying T = some (.struct #[f])) (hn : (f.name != "_") = true) (ho : f.offset = 0) (hf : f.type = t) (ht : P.underlying t = some (.array 6 c)) (hc : P.underlying c = some (.array 4 e)) (he : P.underlying e = some (.int .i64)) (hce : P.cellsOf e = 1) (hcc : P.cellsOf c = 4) (hct : P.cellsOf t = 24) (hcT : P.cellsOf T = 24) (hk : P.keyType T = true) (hp : 3 ≤ P.types.size) (ns : List Int) (hl : ns.length = 24) (hw : WfL ns) :
    keyOf P T (.agg (ints ns).toArray) = some (keyL ns) := by
  unfold keyOf
  have hfm : Value.formed P T (.agg (ints ns).toArray) = true := by
    unfold Value.formed; simp [hT, hcT, ints_len, hl]
  simp only [hT, hk, hfm, Bool.and_self, if_true]
  have e1 : (Value.agg (ints ns).toArray).cells.toList = ints ns := rfl
  obtain ⟨d, hd⟩ : ∃ d, P.types.size + 1 = d + 4 := ⟨P.types.size - 3, by omega⟩
  rw [e1, hd, keyLits_st hT hn ho hf ht hc he hce hcc hct hcT d ns hl hw]; rfl
theorem rackLaw8 : WideMaps.KeyLaw Try.prog 27 := deep_law_laid (by kernel_rfl) (m := 4) (by omega) (of_decide_eq_true (by kernel_rfl)) (by kernel_rfl) (by rw [Try.underlying27])
theorem rackKeyed8 : Go.Maps.Keyed Try.prog 27 := Go.Maps.Keyed.of_law rackLaw8
theorem rack_key8 {ns : List Int} (h : KeyRow 24 ns) : keyOf Try.prog 27 (.agg (ints ns).toArray) = some (keyL ns) :=
  keyOf_st Try.underlying27 (by decide) rfl rfl Try.underlying25 Try.underlying24 Try.underlying3 (by kernel_rfl) (by kernel_rfl) (by kernel_rfl) (by kernel_rfl) (by kernel_rfl) (of_decide_eq_true (by kernel_rfl)) ns h.len h.wf
theorem zeroBool8 (u : World) : (zeroValue 4).run Try.prog u = .ok (.bool false) u := by kernel_rfl
def seenR (fs : List (List Int)) : List Int → Option Value := fun l => if l ∈ fs then some (.bool true) else none
theorem seenR_get (fs : List (List Int)) (l : List Int) : (seenR fs l).getD (.bool false) = .bool (decide (l ∈ fs)) := by
  unfold seenR
  by_cases h : l ∈ fs
  · rw [if_pos h, decide_eq_true h]; rfl
  · rw [if_neg h, decide_eq_false h]; rfl
theorem seenR_put (fs : List (List Int)) (t : List Int) (h : t ∉ fs) : (if (seenR fs t).isSome then fs.length else fs.length + 1) = (fs ++ [t]).length ∧ ∀ l, mapPut (seenR fs) t (.bool true) l = seenR (fs ++ [t]) l := by
  unfold seenR
  rw [if_neg h]
  refine ⟨by simp, fun l => ?_⟩
  unfold mapPut
  by_cases e : l = t
  · subst e; rw [if_pos rfl, if_pos (List.mem_append_right _ (List.mem_singleton.2 rfl))]
  · rw [if_neg e]
    show (if l ∈ fs then some (Value.bool true) else none) = _
    by_cases h2 : l ∈ fs
    · rw [if_pos h2, if_pos (List.mem_append_left _ h2)]
    · rw [if_neg h2, if_neg]
      intro h3
      rcases List.mem_append.1 h3 with h4 | h4
      · exact h2 h4
      · exact e (List.mem_singleton.1 h4)
end Go.Proofs.Ytglhinihhlmgeac.base
end
