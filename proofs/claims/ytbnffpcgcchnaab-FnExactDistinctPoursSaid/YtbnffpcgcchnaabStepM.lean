/-
  Useful pours as pairs, and the forms behind them; plain mathematics.
-/
import Derived.Test.YtbnffpcgcchnaabUseS
import Derived.Test.YtbnffpcgcchnaabPourS
import Derived.Test.YtbnffpcgcchnaabPourM
import Derived.Test.YtbnffpcgcchnaabForm
import Derived.Test.YtbnffpcgcchnaabGrid
namespace Go.Proofs.Ytbnffpcgcchnaab.base
open Go.ChangeShapes Go.WideShapes Go.ChangeAt Go.RowKit
set_option linter.unusedVariables false
set_option linter.unusedSimpArgs false

abbrev Pr := Nat × Nat
def pr2 (x : Pr) : List Int := [(x.1 : Int), (x.2 : Int)]
def flatP (l : List Pr) : List Int := (l.map pr2).flatten
theorem flatP_app (l : List Pr) (x : Pr) : flatP (l ++ [x]) = flatP l ++ [(x.1 : Int), (x.2 : Int)] := by
  unfold flatP; rw [List.map_append, List.flatten_append]; rfl
theorem pr2_len (l : List Pr) : ∀ y ∈ l.map pr2, y.length = 2 := fun y hy => by
  obtain ⟨x, _, rfl⟩ := List.mem_map.1 hy; rfl
theorem flatP_len (l : List Pr) : (flatP l).length = l.length * 2 := by
  unfold flatP; rw [flat_len _ (pr2_len l), List.length_map]
theorem flatP_at (l : List Pr) (k : Nat) (h : k < l.length) : (flatP l).getD (k * 2) 0 = ((l.getD k (0, 0)).1 : Int) ∧ (flatP l).getD (k * 2 + 1) 0 = ((l.getD k (0, 0)).2 : Int) := by
  have e : (l.map pr2).getD k [] = pr2 (l.getD k (0, 0)) := by
    rw [List.getD_eq_getElem?_getD, List.getD_eq_getElem?_getD, List.getElem?_map, List.getElem?_eq_getElem h]; rfl
  have hl : k < (l.map pr2).length := by rw [List.length_map]; exact h
  have h0 := flat_get (l.map pr2) (pr2_len l) k 0 hl (by omega)
  have h1 := flat_get (l.map pr2) (pr2_len l) k 1 hl (by omega)
  rw [Nat.add_zero, e] at h0
  rw [e] at h1
  exact ⟨h0, h1⟩
def okP (ns : List Int) (m : Nat) : Bool := decide (m / 6 ≠ m % 6 ∧ 0 < canN (tub ns (m / 6)) (tub ns (m % 6)))
def prs (ns : List Int) : Nat → List Pr
  | 0 => []
  | m + 1 => if okP ns m = true then prs ns m ++ [(m / 6, m % 6)] else prs ns m
structure PrOk (ns : List Int) (x : Pr) : Prop where
  p6 : x.1 < 6
  q6 : x.2 < 6
  ne : x.1 ≠ x.2
  can : 0 < canN (tub ns x.1) (tub ns x.2)
theorem poursF_prs (ns : List Int) : ∀ m, poursF ns m = flatP (prs ns m)
  | 0 => rfl
  | m + 1 => by
    rw [poursF, prs]
    by_cases h : m / 6 ≠ m % 6 ∧ 0 < canN (tub ns (m / 6)) (tub ns (m % 6))
    · rw [if_pos h, if_pos (by unfold okP; rw [decide_eq_true h]), flatP_app, poursF_prs ns m]
    · rw [if_neg h, if_neg (by unfold okP; rw [decide_eq_false h]; simp), poursF_prs ns m]
theorem prs_ok (ns : List Int) : ∀ m, m ≤ 36 → ∀ x ∈ prs ns m, PrOk ns x
  | 0, _, x, hx => absurd hx List.not_mem_nil
  | m + 1, hm, x, hx => by
    rw [prs] at hx
    by_cases h : okP ns m = true
    · rw [if_pos h] at hx
      rcases List.mem_append.1 hx with h1 | h1
      · exact prs_ok ns m (by omega) x h1
      · rw [List.mem_singleton.1 h1]
        have := of_decide_eq_true h
        exact ⟨by show m / 6 < 6; omega, by show m % 6 < 6; omega, this.1, this.2⟩
    · rw [if_neg h] at hx
      exact prs_ok ns m (by omega) x hx
theorem poursN_prs (ns : List Int) (m : Nat) : poursN ns m = (prs ns m).length := by
  unfold poursN; rw [poursF_prs, flatP_len]; omega
theorem fst_prs (ns : List Int) (k : Nat) (h : k < (prs ns 36).length) : fstP ns k = ((prs ns 36).getD k (0, 0)).1 ∧ sndP ns k = ((prs ns 36).getD k (0, 0)).2 := by
  unfold fstP sndP
  rw [poursF_prs, (flatP_at _ k h).1, (flatP_at _ k h).2]
  exact ⟨by simp, by simp⟩
def goodP (ns : List Int) (x : Pr) : Bool := !idl ns x.1 x.2
/-- The useful pours, in order. -/
def usL (ns : List Int) : List Pr := (prs ns 36).filter (goodP ns)
theorem usefF_take (ns : List Int) : ∀ k, k ≤ (prs ns 36).length → usefF ns k = flatP (((prs ns 36).take k).filter (goodP ns))
  | 0, _ => rfl
  | k + 1, hk => by
    have hlt : k < (prs ns 36).length := by omega
    have e := fst_prs ns k hlt
    have eg : (prs ns 36).getD k (0, 0) = (prs ns 36)[k] := by rw [List.getD_eq_getElem?_getD, List.getElem?_eq_getElem hlt]; rfl
    rw [usefF, e.1, e.2, eg, List.take_succ_eq_append_getElem hlt, List.filter_append, usefF_take ns k (by omega)]
    by_cases h : idl ns (prs ns 36)[k].1 (prs ns 36)[k].2 = true
    · have hg : goodP ns (prs ns 36)[k] = false := by unfold goodP; rw [h]; rfl
      rw [if_pos h, List.filter_cons_of_neg (by rw [hg]; simp), List.filter_nil, List.append_nil]
    · have hf : idl ns (prs ns 36)[k].1 (prs ns 36)[k].2 = false := by simpa using h
      have hg : goodP ns (prs ns 36)[k] = true := by unfold goodP; rw [hf]; rfl
      rw [if_neg h, List.filter_cons_of_pos hg, List.filter_nil, flatP_app]
theorem usef_us (ns : List Int) : usefF ns (poursN ns 36) = flatP (usL ns) ∧ usefN ns (poursN ns 36) = (usL ns).length := by
  have e : usefF ns (poursN ns 36) = flatP (usL ns) := by
    rw [poursN_prs, usefF_take ns _ (Nat.le_refl _), List.take_length]; rfl
  refine ⟨e, ?_⟩
  unfold usefN; rw [e, flatP_len]; omega
theorem usL_ok (ns : List Int) : ∀ x ∈ usL ns, PrOk ns x := fun x hx => prs_ok ns 36 (Nat.le_refl _) x (List.mem_filter.1 hx).1
theorem usL_le (ns : List Int) : (usL ns).length ≤ 36 := by
  have := (usef_us ns).2
  have h1 := usefN_le ns (poursN ns 36)
  have h2 := poursN_le ns 36
  omega
theorem usL_at (ns : List Int) {k : Nat} (h : k < (usL ns).length) : PrOk ns ((usL ns).getD k (0, 0)) := by
  rw [List.getD_eq_getElem?_getD, List.getElem?_eq_getElem h]; exact usL_ok ns _ (List.getElem_mem h)
theorem prs_slice2 {w : World} {b : Nat} {v : Value} {n : Nat} {fs : List Int} (h : Prs w b v n fs) : ∃ a cap, v = .slice a n cap := by
  rcases h.2 with ⟨h0, h1⟩ | ⟨g, cap, cur, h0, _⟩
  · exact ⟨_, _, by rw [h1]; exact h0⟩
  · exact ⟨_, _, h0⟩
theorem Prs.toGr {w : World} {b n : Nat} {v : Value} {l : List Pr} (h : Prs w b v n (flatP l)) (hn : n = l.length) : Gr w b 53 2 v (l.map pr2) := by
  subst hn
  refine ⟨?_, pr2_len l⟩
  rw [List.length_map]; exact h
theorem Gr.toPrs {w : World} {b : Nat} {v : Value} {l : List Pr} (h : Gr w b 53 2 v (l.map pr2)) : Prs w b v l.length (flatP l) := by
  have := h.row
  rw [List.length_map] at this; exact this
theorem pr2_at (l : List Pr) {k : Nat} (h : k < l.length) : (l.map pr2).getD k [] = pr2 (l.getD k (0, 0)) := by
  rw [List.getD_eq_getElem?_getD, List.getD_eq_getElem?_getD, List.getElem?_map, List.getElem?_eq_getElem h]; rfl

/-- The rack behind a pour, and its form. -/
def behN (ns : List Int) (x : Pr) : List Int := pourT ns x.1 x.2
def behForm (ns : List Int) (x : Pr) : List Int := formL (behN ns x)
theorem pourT_len2 {ns : List Int} {x : Pr} (h24 : ns.length = 24) (hv : vR ns = true) (h : PrOk ns x) : (behN ns x).length = 24 := by
  have hs := tub_len ns x.1 h24 h.p6
  have ht := tub_len ns x.2 h24 h.q6
  have hc := canN_le hs ht (vR_tub hv _ h.p6) (vR_tub hv _ h.q6)
  have hok : pourOk ns (x.1 : Int) (x.2 : Int) = true := by
    unfold pourOk twoOk
    rw [hv, decide_eq_true (show (0 : Int) ≤ (x.1 : Int) ∧ (x.1 : Int) < 6 by have := h.p6; omega)]
    have := h.can; have := h.q6; have := h.ne
    simp; omega
  have := pourR_len h24 (x.1 : Int) (x.2 : Int)
  unfold pourR at this
  rw [if_pos hok] at this
  exact this
theorem behForm_len {ns : List Int} {x : Pr} (h24 : ns.length = 24) (hv : vR ns = true) (h : PrOk ns x) : (behForm ns x).length = 24 := formL_len _ (pourT_len2 h24 hv h)

/-- The pours whose forms are new, and these forms. -/
def dstF (ns : List Int) : List Pr → List (List Int) × List Pr → List (List Int) × List Pr
  | [], s => s
  | x :: r, s => dstF ns r (if behForm ns x ∈ s.1 then s else (s.1 ++ [behForm ns x], s.2 ++ [x]))
def dstUp (ns : List Int) (k : Nat) : List (List Int) × List Pr := dstF ns ((usL ns).take k) ([], [])
theorem dstF_app (ns : List Int) (x : Pr) : ∀ l s, dstF ns (l ++ [x]) s = if behForm ns x ∈ (dstF ns l s).1 then dstF ns l s else ((dstF ns l s).1 ++ [behForm ns x], (dstF ns l s).2 ++ [x])
  | [], s => rfl
  | y :: r, s => by rw [List.cons_append, dstF, dstF_app ns x r]; rfl
theorem dst_succ (ns : List Int) {k : Nat} (h : k < (usL ns).length) : dstUp ns (k + 1) = if behForm ns ((usL ns).getD k (0, 0)) ∈ (dstUp ns k).1 then dstUp ns k else ((dstUp ns k).1 ++ [behForm ns ((usL ns).getD k (0, 0))], (dstUp ns k).2 ++ [(usL ns).getD k (0, 0)]) := by
  unfold dstUp
  rw [List.take_succ_eq_append_getElem h, dstF_app, List.getD_eq_getElem?_getD, List.getElem?_eq_getElem h]; rfl
theorem dst_len (ns : List Int) : ∀ k, k ≤ (usL ns).length → (dstUp ns k).1.length ≤ k ∧ (dstUp ns k).2.length ≤ k ∧ ∀ f ∈ (dstUp ns k).1, ∃ x ∈ usL ns, f = behForm ns x
  | 0, _ => ⟨Nat.le_refl _, Nat.le_refl _, fun f hf => absurd hf List.not_mem_nil⟩
  | k + 1, hk => by
    have ih := dst_len ns k (by omega)
    rw [dst_succ ns (by omega)]
    by_cases h : behForm ns ((usL ns).getD k (0, 0)) ∈ (dstUp ns k).1
    · rw [if_pos h]; exact ⟨by omega, by omega, ih.2.2⟩
    · rw [if_neg h]
      refine ⟨by simp; omega, by simp; omega, fun f hf => ?_⟩
      rcases List.mem_append.1 hf with h1 | h1
      · exact ih.2.2 f h1
      · refine ⟨(usL ns).getD k (0, 0), ?_, List.mem_singleton.1 h1⟩
        rw [List.getD_eq_getElem?_getD, List.getElem?_eq_getElem (by omega)]; exact List.getElem_mem _
end Go.Proofs.Ytbnffpcgcchnaab.base
