/-
  The hidden layers of a rack, and its rank: plain mathematics.
-/
import Derived.Test.YtemiljokdedidacCnM
import Derived.Test.YtemiljokdedidacVofWZ
import Derived.Test.YtemiljokdedidacVwSZ
import Derived.Test.YtemiljokdedidacVwMZ
namespace Go.Proofs.Ytemiljokdedidac.base
open Go.ChangeShapes Go.WideShapes Go.ChangeAt Go.RowKit
set_option linter.unusedVariables false
set_option linter.unusedSimpArgs false

def hidT (t : List Int) : List Int := t.take (lay t - 1)
def hlUp (ns : List Int) : Nat → List Int
  | 0 => []
  | k + 1 => hlUp ns k ++ hidT (tub ns k)
def hl (ns : List Int) : List Int := hlUp ns 6
def hidC (t : List Int) : Bool := ((List.range 6).all fun d => d == 0 || cnV d t == cnV d (hidT t) + (if (topC t).toNat = d then 1 else 0))
  && ((hidT t).all fun x => decide (1 ≤ x ∧ x ≤ 5)) && (hidT t).length == lay t - 1
theorem hidC_all : allT.all hidC = true := by decide +kernel
structure HidFacts (t : List Int) : Prop where
  cnt : ∀ d, 1 ≤ d → d < 6 → cnV d t = cnV d (hidT t) + (if (topC t).toNat = d then 1 else 0)
  each : ∀ x ∈ hidT t, 1 ≤ x ∧ x ≤ 5
  len : (hidT t).length = lay t - 1
theorem hidFacts {t : List Int} (h4 : t.length = 4) (hv : vT t = true) : HidFacts t := by
  have h := forT hidC hidC_all h4 hv
  unfold hidC at h
  simp only [Bool.and_eq_true] at h
  obtain ⟨⟨h1, h2⟩, h3⟩ := h
  refine ⟨fun d h0 hd => ?_, fun x hx => ?_, by simpa using h3⟩
  · have := List.all_eq_true.1 h1 d (by simp; omega)
    have e : (d == 0) = false := by simp; omega
    rw [e, Bool.false_or] at this
    exact eq_of_beq this
  · have := List.all_eq_true.1 h2 x hx
    exact of_decide_eq_true this

/-! the parts of a rack's view -/
theorem vwR_getD (ns : List Int) (j : Nat) (hj : j < 18) : (vwR ns).getD j 0 = vwAt ns 6 6 j := by
  unfold vwR vwUp
  rw [List.getD_eq_getElem?_getD, List.getElem?_map, List.getElem?_range hj]; rfl
theorem vwR_top (ns : List Int) (i : Nat) (hi : i < 6) : vTop (vwR ns) i = topC (tub ns i) := by
  unfold vTop
  rw [prt_getD _ 0 i hi, vwR_getD _ _ (by omega)]
  unfold vwAt
  rw [if_pos (by omega), if_pos (by omega)]; simp
theorem vwR_many (ns : List Int) (i : Nat) (hi : i < 6) : vMany (vwR ns) i = (lay (tub ns i) : Nat) := by
  unfold vMany
  rw [prt_getD _ 1 i hi, vwR_getD _ _ (by omega)]
  unfold vwAt
  rw [if_neg (by omega), if_pos (by omega), if_pos (by omega), show 1 * 6 + i - 6 = i by omega]
theorem vwR_cnt (ns : List Int) (c : Nat) (hc : c < 6) : vCnt (vwR ns) c = (cnt0 ns).getD c 0 := by
  unfold vCnt
  rw [prt_getD _ 2 c hc, vwR_getD _ _ (by omega)]
  unfold vwAt
  rw [if_neg (by omega), if_neg (by omega), show 2 * 6 + c - 12 = c by omega]
theorem vwR_cn {ns : List Int} (h : ns.length = 24) (hv : vR ns = true) (c : Nat) (hc : c < 6) : vCnt (vwR ns) c = if c = 0 then 0 else (cnV c ns : Int) := by
  rw [vwR_cnt ns c hc]
  unfold cnt0
  rw [set_getD _ _ _ _ (by rw [(cnt_all ns 24).1]; omega)]
  split
  · rfl
  · have := cntUp_cnV ns (vR_allV h hv) 24 (by omega) c hc
    rw [List.take_of_length_le (by omega)] at this
    exact this
theorem vwR_tops {ns : List Int} (h : ns.length = 24) (hv : vR ns = true) : topV (vwR ns) = true := topV_of fun i hi => by
  have F := tubeFacts (tub_len ns i h hi) (vR_tub hv i hi)
  have h1 := F.lay4
  have h2 := F.c0
  have h3 := F.c5
  have h4 := F.none
  have h5 := F.noneC
  unfold okTop
  rw [vwR_top ns i hi, vwR_many ns i hi]
  refine decide_eq_true ?_
  omega
theorem vwR_occ {ns : List Int} (h : ns.length = 24) (hv : vR ns = true) (c : Nat) (h1 : 1 ≤ c) (hc : c < 6) : ∀ k, k ≤ 6 → occT (vwR ns) c (k + 0) + (cnV c (hlUp ns k) : Int) = (cnV c (ns.take (k * 4)) : Int)
  | 0, _ => by simp [occT, hlUp, cnV]
  | k + 1, hk => by
    have ih := vwR_occ h hv c h1 hc k (by omega)
    have h4 := tub_len ns k h (by omega)
    have F := hidFacts h4 (vR_tub hv k (by omega))
    have T := tubeFacts h4 (vR_tub hv k (by omega))
    have e : ns.take ((k + 1) * 4) = ns.take (k * 4) ++ tub ns k := by
      unfold tub
      rw [show (k + 1) * 4 = k * 4 + 4 by omega, List.take_add]
    have hf := F.cnt c h1 hc
    rw [e, cn_appV, hlUp, cn_appV, Nat.add_zero, occT, vwR_top ns k (by omega)]
    rw [Nat.add_zero] at ih
    have t0 := T.c0
    by_cases e2 : topC (tub ns k) = (c : Int)
    · have e3 : (topC (tub ns k)).toNat = c := by omega
      rw [if_pos e3] at hf
      rw [if_pos ⟨e2, by omega⟩]; omega
    · have e3 : ¬ (topC (tub ns k)).toNat = c := by omega
      rw [if_neg e3] at hf
      rw [if_neg (fun hh => e2 hh.1)]; omega
/-- The hidden counts are those of the hidden layers. -/
theorem vwR_hid {ns : List Int} (h : ns.length = 24) (hv : vR ns = true) (c : Nat) (hc : c < 6) : (hid (vwR ns)).getD c 0 = if c = 0 then 0 else (cnV c (hl ns) : Int) := by
  rw [hid_get (vwR_len ns) (vwR_tops h hv) c hc, vwR_cn h hv c hc]
  by_cases e : c = 0
  · subst e; rw [occT_zero]; rfl
  · rw [if_neg e, if_neg e]
    have := vwR_occ h hv c (by omega) hc 6 (by omega)
    rw [List.take_of_length_le (by omega)] at this
    unfold hl
    simp only [Nat.add_zero] at this
    omega
theorem hl_each {ns : List Int} (h : ns.length = 24) (hv : vR ns = true) : ∀ k, k ≤ 6 → ∀ x ∈ hlUp ns k, 1 ≤ x ∧ x ≤ 5
  | 0, _, x, hx => by simp [hlUp] at hx
  | k + 1, hk, x, hx => by
    rw [hlUp] at hx
    rcases List.mem_append.1 hx with h1 | h1
    · exact hl_each h hv k (by omega) x h1
    · exact (hidFacts (tub_len ns k h (by omega)) (vR_tub hv k (by omega))).each x h1
theorem hlUp_len {ns : List Int} (h : ns.length = 24) (hv : vR ns = true) : ∀ k, k ≤ 6 → ((hlUp ns k).length : Int) = belUp (vwR ns) k ∧ (hlUp ns k).length ≤ 3 * k
  | 0, _ => by simp [hlUp, belUp]
  | k + 1, hk => by
    have ih := hlUp_len h hv k (by omega)
    have h4 := tub_len ns k h (by omega)
    have F := hidFacts h4 (vR_tub hv k (by omega))
    have T := tubeFacts h4 (vR_tub hv k (by omega))
    have h1 := T.lay4
    have h2 := F.len
    rw [hlUp, List.length_append, belUp, vwR_many ns k (by omega), h2]
    refine ⟨?_, by omega⟩
    split <;> omega
theorem cn_sum : ∀ l : List Int, (∀ x ∈ l, 1 ≤ x ∧ x ≤ 5) → cnV 1 l + cnV 2 l + cnV 3 l + cnV 4 l + cnV 5 l = l.length
  | [], _ => rfl
  | x :: r, h => by
    have ih := cn_sum r (fun y hy => h y (List.mem_cons_of_mem _ hy))
    have hx := h x (List.mem_cons_self ..)
    have e : ∀ d, cnV d (x :: r) = cnV d r + (if x.toNat = d then 1 else 0) := fun d => by
      unfold cnV
      rw [List.filter_cons]
      by_cases e : x.toNat = d
      · simp [e]
      · simp [e]
    rw [e 1, e 2, e 3, e 4, e 5, List.length_cons]
    have : x.toNat = 1 ∨ x.toNat = 2 ∨ x.toNat = 3 ∨ x.toNat = 4 ∨ x.toNat = 5 := by omega
    rcases this with h1 | h1 | h1 | h1 | h1 <;> simp [h1] <;> omega
theorem cn_cons (d : Nat) (x : Int) (r : List Int) : cnV d (x :: r) = cnV d r + (if x.toNat = d then 1 else 0) := by
  unfold cnV
  rw [List.filter_cons]
  by_cases e : x.toNat = d
  · simp [e]
  · simp [e]
/-- The view of a rack is valid. -/
theorem vwR_valid {ns : List Int} (h : ns.length = 24) (hv : vR ns = true) : vV (vwR ns) = true := by
  have g := fun c hc => vwR_hid h hv c hc
  have hs := cn_sum (hl ns) (hl_each h hv 6 (by omega))
  have hn := (hlUp_len h hv 6 (by omega)).1
  unfold vV
  simp only [Bool.and_eq_true, decide_eq_true_eq]
  refine ⟨⟨⟨vwR_tops h hv, ?_⟩, (noDebt_iff _ _).2 fun j hj => ?_⟩, ?_⟩
  · rw [vwR_cn h hv 0 (by omega), if_pos rfl]
  · rw [g j hj]; split <;> omega
  · simp only [sumUp]
    rw [g 0 (by omega), g 1 (by omega), g 2 (by omega), g 3 (by omega), g 4 (by omega), g 5 (by omega)]
    unfold hl at *
    simp
    omega
theorem vwR_stk {ns : List Int} (h : ns.length = 24) (hv : vR ns = true) : Stk (hid (vwR ns)) (hl ns).length := by
  have F := viewFacts (vwR_len ns) (vwR_valid h hv)
  have hn := (hlUp_len h hv 6 (by omega)).1
  refine ⟨hid_len (vwR_len ns), F.nat, F.zero, ?_⟩
  have := F.pl
  unfold hl
  omega
theorem vwR_wf {ns : List Int} (h : ns.length = 24) (hv : vR ns = true) : Wf (vwR ns) := fun x hx => by
  unfold vwR vwUp at hx
  obtain ⟨j, hj, rfl⟩ := List.mem_map.1 hx
  have hj := List.mem_range.1 hj
  have hc := cnt_all ns 24
  refine WalkArith.wf_i64 ?_
  unfold vwAt
  by_cases h6 : j < 6
  · rw [if_pos h6, if_pos h6]
    have T := tubeFacts (tub_len ns j h h6) (vR_tub hv j h6)
    have := T.c0; have := T.c5; omega
  · rw [if_neg h6]
    by_cases h12 : j < 12
    · rw [if_pos h12, if_pos (by omega)]
      have T := tubeFacts (tub_len ns (j - 6) h (by omega)) (vR_tub hv (j - 6) (by omega))
      have := T.lay4; omega
    · rw [if_neg h12]
      unfold cnt0
      rw [set_getD _ _ _ _ (by rw [hc.1]; omega)]
      split
      · omega
      · have := hc.2 (j - 12); omega

/-! the rank -/
def fOrd (ns : List Int) (k : Nat) : Nat := ((hl ns).getD k 0).toNat
theorem fits_of (s l : List Int) (h6 : s.length = 6) (hl : ∀ x ∈ l, 1 ≤ x ∧ x ≤ 5) (hs : ∀ c, 1 ≤ c → c < 6 → s.getD c 0 = (cnV c l : Int)) : Fits s (fun k => (l.getD k 0).toNat) l.length := by
  have key : ∀ k, k ≤ l.length → (rk s (fun k => (l.getD k 0).toNat) k).1.length = 6 ∧ ∀ c, 1 ≤ c → c < 6 → (rk s (fun k => (l.getD k 0).toNat) k).1.getD c 0 = (cnV c (l.drop k) : Int) := by
    intro k
    induction k with
    | zero => intro _; exact ⟨h6, fun c h1 hc => by rw [List.drop_zero]; exact hs c h1 hc⟩
    | succ k ih =>
      intro hk
      obtain ⟨i1, i2⟩ := ih (by omega)
      have ed : l.drop k = l.getD k 0 :: l.drop (k + 1) := by
        rw [List.drop_eq_getElem_cons (by omega), List.getD_eq_getElem?_getD, List.getElem?_eq_getElem (by omega)]; rfl
      have hx := hl (l.getD k 0) (by rw [List.getD_eq_getElem?_getD, List.getElem?_eq_getElem (by omega)]; exact List.getElem_mem _)
      refine ⟨by rw [rk, less1_len]; exact i1, fun c h1 hc => ?_⟩
      have e := i2 c h1 hc
      rw [ed, cn_cons] at e
      show (less1 (rk s (fun k => (l.getD k 0).toNat) k).1 ((l.getD k 0).toNat)).getD c 0 = _
      unfold less1
      rw [set_getD _ _ _ _ (by omega)]
      by_cases e2 : c = (l.getD k 0).toNat
      · rw [if_pos e2.symm] at e
        rw [if_pos e2, ← e2, e]; omega
      · rw [if_neg (fun h => e2 h.symm)] at e
        rw [if_neg e2, e]; omega
  intro k hk
  have hx := hl (l.getD k 0) (by rw [List.getD_eq_getElem?_getD, List.getElem?_eq_getElem (by omega)]; exact List.getElem_mem _)
  obtain ⟨i1, i2⟩ := key k (by omega)
  have ed : l.drop k = l.getD k 0 :: l.drop (k + 1) := by
    rw [List.drop_eq_getElem_cons (by omega), List.getD_eq_getElem?_getD, List.getElem?_eq_getElem (by omega)]; rfl
  refine ⟨(by omega : 1 ≤ (l.getD k 0).toNat), (by omega : (l.getD k 0).toNat < 6), ?_⟩
  have e := i2 (l.getD k 0).toNat (by omega) (by omega)
  rw [ed, cn_cons, if_pos rfl] at e
  show 0 < (rk s (fun k => (l.getD k 0).toNat) k).1.getD ((l.getD k 0).toNat) 0
  omega
theorem ord_fits {ns : List Int} (h : ns.length = 24) (hv : vR ns = true) : Fits (hid (vwR ns)) (fOrd ns) (hl ns).length :=
  fits_of (hid (vwR ns)) (hl ns) (hid_len (vwR_len ns)) (hl_each h hv 6 (by omega)) (fun c h1 hc => by rw [vwR_hid h hv c hc, if_neg (by omega)])
def rankN (ns : List Int) : Nat := (rk (hid (vwR ns)) (fOrd ns) (hl ns).length).2
def rankA (ns : List Int) : Nat := if vR ns = true then rankN ns else 0
theorem hl_at {ns : List Int} (h : ns.length = 24) (hv : vR ns = true) (i k : Nat) (hi : i < 6) (hk : k < lay (tub ns i) - 1) : (hl ns).getD ((hlUp ns i).length + k) 0 = (tub ns i).getD k 0 := by
  have F := hidFacts (tub_len ns i h hi) (vR_tub hv i hi)
  have key : ∀ m, i + 1 ≤ m → m ≤ 6 → (hlUp ns m).getD ((hlUp ns i).length + k) 0 = (hlUp ns (i + 1)).getD ((hlUp ns i).length + k) 0 ∧ (hlUp ns (i + 1)).length ≤ (hlUp ns m).length := by
    intro m
    induction m with
    | zero => intro h1 _; omega
    | succ m ih =>
      intro h1 h2
      by_cases e : i = m
      · subst e; exact ⟨rfl, Nat.le_refl _⟩
      · obtain ⟨a1, a2⟩ := ih (by omega) (by omega)
        rw [hlUp, List.length_append]
        refine ⟨?_, by omega⟩
        rw [List.getD_eq_getElem?_getD, List.getElem?_append_left (by rw [hlUp, List.length_append, F.len] at a2; omega), ← List.getD_eq_getElem?_getD]
        exact a1
  unfold hl
  rw [(key 6 (by omega) (by omega)).1, hlUp, List.getD_eq_getElem?_getD, List.getElem?_append_right (by omega), Nat.add_sub_cancel_left]
  unfold hidT
  rw [List.getElem?_take, if_pos hk, ← List.getD_eq_getElem?_getD]
theorem hlUp_succ_len {ns : List Int} (h : ns.length = 24) (hv : vR ns = true) (i : Nat) (hi : i < 6) : (hlUp ns (i + 1)).length = (hlUp ns i).length + (lay (tub ns i) - 1) := by
  have F := hidFacts (tub_len ns i h hi) (vR_tub hv i hi)
  rw [hlUp, List.length_append, F.len]
end Go.Proofs.Ytemiljokdedidac.base
