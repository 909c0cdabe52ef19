/-
  Views as lists of 18 numbers (tops, layers, counts) and their hidden counts: plain mathematics.
-/
import Derived.Test.YtemiljokdedidacMulMZ
import Derived.IntWalk
namespace Go.Proofs.Ytemiljokdedidac.base
set_option linter.unusedVariables false
set_option linter.unusedSimpArgs false

/-- A part of a view: 0 its tops, 1 how many layers, 2 its counts. -/
def prt (vs : List Int) (k : Nat) : List Int := (vs.drop (k * 6)).take 6
theorem prt_len (vs : List Int) (k : Nat) (h : vs.length = 18) (hk : k < 3) : (prt vs k).length = 6 := by
  unfold prt; rw [List.length_take, List.length_drop]; omega
theorem prt_getD (vs : List Int) (k i : Nat) (hi : i < 6) : (prt vs k).getD i 0 = vs.getD (k * 6 + i) 0 := by
  unfold prt
  rw [List.getD_eq_getElem?_getD, List.getD_eq_getElem?_getD, List.getElem?_take, if_pos hi, List.getElem?_drop]
def vTop (vs : List Int) (i : Nat) : Int := (prt vs 0).getD i 0
def vMany (vs : List Int) (i : Nat) : Int := (prt vs 1).getD i 0
def vCnt (vs : List Int) (c : Nat) : Int := (prt vs 2).getD c 0

/-- A tube has as many layers as there may be, and a top if it has any. -/
def okTop (vs : List Int) (i : Nat) : Bool := decide ((1 ≤ vMany vs i ∧ vMany vs i ≤ 4 ∧ 1 ≤ vTop vs i ∧ vTop vs i ≤ 5) ∨ (vMany vs i = 0 ∧ vTop vs i = 0))
def topV (vs : List Int) : Bool := (List.range 6).all fun i => okTop vs i
theorem topV_at {vs : List Int} (h : topV vs = true) (i : Nat) (hi : i < 6) : (1 ≤ vMany vs i ∧ vMany vs i ≤ 4 ∧ 1 ≤ vTop vs i ∧ vTop vs i ≤ 5) ∨ (vMany vs i = 0 ∧ vTop vs i = 0) := by
  unfold topV at h
  have := List.all_eq_true.1 h i (by simp; exact hi)
  unfold okTop at this
  exact of_decide_eq_true this
theorem topV_of {vs : List Int} (h : ∀ i, i < 6 → okTop vs i = true) : topV vs = true := by
  unfold topV
  exact List.all_eq_true.2 fun i hi => h i (by simpa using hi)
theorem topV_not {vs : List Int} (i : Nat) (hi : i < 6) (h : okTop vs i = false) : topV vs = false := by
  cases hb : topV vs with
  | false => rfl
  | true =>
    unfold topV at hb
    have := List.all_eq_true.1 hb i (by simp; exact hi)
    rw [h] at this; cases this

/-- One less of a color, if it is one. -/
def lessAt (cs : List Int) (x : Int) : List Int := if x = 0 then cs else cs.set x.toNat (cs.getD x.toNat 0 - 1)
/-- The counts, less the first tops. -/
def hidUp (vs : List Int) : Nat → List Int
  | 0 => prt vs 2
  | i + 1 => lessAt (hidUp vs i) (vTop vs i)
theorem lessAt_len (cs : List Int) (x : Int) : (lessAt cs x).length = cs.length := by
  unfold lessAt; split
  · rfl
  · rw [List.length_set]
theorem hidUp_len (vs : List Int) (h : vs.length = 18) : ∀ i, (hidUp vs i).length = 6
  | 0 => prt_len vs 2 h (by omega)
  | i + 1 => by rw [hidUp, lessAt_len]; exact hidUp_len vs h i
/-- How often a color is among the first tops. -/
def occT (vs : List Int) (c : Nat) : Nat → Int
  | 0 => 0
  | i + 1 => occT vs c i + (if vTop vs i = (c : Int) ∧ c ≠ 0 then 1 else 0)
theorem occT_in (vs : List Int) (c : Nat) : ∀ i, 0 ≤ occT vs c i ∧ occT vs c i ≤ i
  | 0 => by simp [occT]
  | i + 1 => by
    have := occT_in vs c i
    rw [occT]; split <;> omega
theorem occT_zero (vs : List Int) : ∀ i, occT vs 0 i = 0
  | 0 => rfl
  | i + 1 => by rw [occT, occT_zero vs i]; simp
theorem hidUp_get {vs : List Int} (h : vs.length = 18) (ht : topV vs = true) (c : Nat) (hc : c < 6) : ∀ i, i ≤ 6 → (hidUp vs i).getD c 0 = vCnt vs c - occT vs c i
  | 0, _ => by rw [hidUp, occT]; unfold vCnt; omega
  | i + 1, hi => by
    have ih := hidUp_get h ht c hc i (by omega)
    have hl := hidUp_len vs h i
    have hT := topV_at ht i (by omega)
    rw [hidUp, occT]
    unfold lessAt
    split
    · rename_i e
      rw [ih, if_neg]; omega
      rintro ⟨h1, h2⟩
      omega
    · rename_i e
      rw [set_getD _ _ _ _ (by omega)]
      by_cases e2 : vTop vs i = (c : Int)
      · have e3 : (vTop vs i).toNat = c := by omega
        rw [e3, if_pos rfl, ih, if_pos ⟨e2, by omega⟩]; omega
      · rw [if_neg (by omega), ih, if_neg (by rintro ⟨h1, _⟩; exact e2 h1)]; omega
/-- The hidden counts. -/
def hid (vs : List Int) : List Int := hidUp vs 6
theorem hid_len {vs : List Int} (h : vs.length = 18) : (hid vs).length = 6 := hidUp_len vs h 6
theorem hid_get {vs : List Int} (h : vs.length = 18) (ht : topV vs = true) (c : Nat) (hc : c < 6) : (hid vs).getD c 0 = vCnt vs c - occT vs c 6 := hidUp_get h ht c hc 6 (by omega)
/-- How many layers lie below the tops of the first tubes. -/
def belUp (vs : List Int) : Nat → Int
  | 0 => 0
  | i + 1 => belUp vs i + (if vMany vs i = 0 then 0 else vMany vs i - 1)
def mnyUp (vs : List Int) : Nat → Int
  | 0 => 0
  | i + 1 => mnyUp vs i + vMany vs i
theorem belUp_in {vs : List Int} (ht : topV vs = true) : ∀ i, i ≤ 6 → 0 ≤ belUp vs i ∧ belUp vs i ≤ 3 * (i : Int)
  | 0, _ => by simp [belUp]
  | i + 1, hi => by
    have := belUp_in ht i (by omega)
    have := topV_at ht i (by omega)
    rw [belUp]; split <;> omega
theorem mnyUp_in {vs : List Int} (ht : topV vs = true) : ∀ i, i ≤ 6 → 0 ≤ mnyUp vs i ∧ mnyUp vs i ≤ 4 * (i : Int)
  | 0, _ => by simp [mnyUp]
  | i + 1, hi => by
    have := mnyUp_in ht i (by omega)
    have := topV_at ht i (by omega)
    rw [mnyUp]; omega
/-- All tubes with layers have a color's top. -/
theorem occT_all {vs : List Int} (ht : topV vs = true) : ∀ i, i ≤ 6 → occT vs 1 i + occT vs 2 i + occT vs 3 i + occT vs 4 i + occT vs 5 i = mnyUp vs i - belUp vs i
  | 0, _ => by simp [occT, mnyUp, belUp]
  | i + 1, hi => by
    have ih := occT_all ht i (by omega)
    have hT := topV_at ht i (by omega)
    simp only [occT, mnyUp, belUp]
    by_cases e : vMany vs i = 0
    · rw [if_pos e]
      have e0 : vTop vs i = 0 := by omega
      rw [e0]; simp; omega
    · rw [if_neg e]
      have : vTop vs i = 1 ∨ vTop vs i = 2 ∨ vTop vs i = 3 ∨ vTop vs i = 4 ∨ vTop vs i = 5 := by omega
      rcases this with e1 | e1 | e1 | e1 | e1 <;> rw [e1] <;> simp <;> omega
def sumUp (s : List Int) : Nat → Int
  | 0 => 0
  | c + 1 => sumUp s c + s.getD c 0
theorem sumUp_pl {s : List Int} (h : ∀ j, j < 6 → 0 ≤ s.getD j 0) : ∀ c, c ≤ 6 → sumUp s c = (plUp s c : Nat)
  | 0, _ => rfl
  | c + 1, hc => by
    have := sumUp_pl h c (by omega)
    have := h c (by omega)
    rw [sumUp, plUp]; omega
/-- A view is valid. -/
def vV (vs : List Int) : Bool := topV vs && decide (vCnt vs 0 = 0) && noDebt (hid vs) 6 && decide (sumUp (hid vs) 6 = belUp vs 6)
structure ViewFacts (vs : List Int) : Prop where
  tops : topV vs = true
  zero : (hid vs).getD 0 0 = 0
  cnt0 : vCnt vs 0 = 0
  nat : ∀ j, j < 6 → 0 ≤ (hid vs).getD j 0
  sum : sumUp (hid vs) 6 = belUp vs 6
  pl : (plUp (hid vs) 6 : Int) = belUp vs 6
  small : plUp (hid vs) 6 ≤ 18
  each : ∀ j, j < 6 → (hid vs).getD j 0 ≤ 18
theorem viewFacts {vs : List Int} (h : vs.length = 18) (hv : vV vs = true) : ViewFacts vs := by
  unfold vV at hv
  simp only [Bool.and_eq_true, decide_eq_true_eq] at hv
  obtain ⟨⟨⟨h1, h2⟩, h3⟩, h4⟩ := hv
  have hn := (noDebt_iff _ _).1 h3
  have hz : (hid vs).getD 0 0 = 0 := by rw [hid_get h h1 0 (by omega), occT_zero, h2]; rfl
  have hp := sumUp_pl hn 6 (by omega)
  have hb := belUp_in h1 6 (by omega)
  have hs : plUp (hid vs) 6 ≤ 18 := by omega
  refine ⟨h1, hz, h2, hn, h4, by omega, hs, fun j hj => ?_⟩
  have := getD_le_plUp (hid vs) j hj
  have := hn j hj
  omega
/-- How far the counts go, taken off the layers one by one. -/
def cntOk (vs : List Int) : Nat → Bool
  | 0 => true
  | c + 1 => cntOk vs c && decide (0 ≤ vCnt vs c) && decide (vCnt vs c ≤ mnyUp vs 6 - sumUp (prt vs 2) c)
theorem cntOk_nat {vs : List Int} : ∀ c, cntOk vs c = true → ∀ j, j < c → 0 ≤ vCnt vs j
  | 0, _, j, hj => by omega
  | c + 1, h, j, hj => by
    simp only [cntOk, Bool.and_eq_true, decide_eq_true_eq] at h
    by_cases e : j = c
    · subst e; exact h.1.2
    · exact cntOk_nat c h.1.1 j (by omega)
theorem cntOk_of {vs : List Int} (hn : ∀ j, j < 6 → 0 ≤ vCnt vs j) (hs : sumUp (prt vs 2) 6 ≤ mnyUp vs 6) : ∀ c, c ≤ 6 → cntOk vs c = true
  | 0, _ => rfl
  | c + 1, hc => by
    have ih := cntOk_of hn hs c (by omega)
    have hm : ∀ a b, a ≤ b → b ≤ 6 → sumUp (prt vs 2) a ≤ sumUp (prt vs 2) b := by
      intro a b hab
      induction b with
      | zero => intro _; obtain rfl : a = 0 := by omega
                exact Int.le_refl _
      | succ b jh =>
        intro hb
        by_cases e : a = b + 1
        · subst e; exact Int.le_refl _
        · have := jh (by omega) (by omega)
          have := hn b (by omega)
          unfold vCnt at this
          rw [sumUp]; omega
    have h1 := hm (c + 1) 6 (by omega) (by omega)
    have h2 := hn c (by omega)
    rw [sumUp] at h1
    simp only [cntOk, Bool.and_eq_true, decide_eq_true_eq]
    refine ⟨⟨ih, h2⟩, ?_⟩
    unfold vCnt
    omega
/-- The counts of a view with tops add up to all layers. -/
def cntVV (vs : List Int) : Bool := cntOk vs 6 && decide (mnyUp vs 6 - sumUp (prt vs 2) 6 = 0) && decide (vCnt vs 0 = 0)
theorem hid_sum {vs : List Int} (h : vs.length = 18) (ht : topV vs = true) : sumUp (hid vs) 6 = sumUp (prt vs 2) 6 - (mnyUp vs 6 - belUp vs 6) := by
  have g := fun c hc => hid_get h ht c hc
  have o := occT_all ht 6 (by omega)
  simp only [sumUp]
  rw [g 0 (by omega), g 1 (by omega), g 2 (by omega), g 3 (by omega), g 4 (by omega), g 5 (by omega), occT_zero]
  unfold vCnt
  omega
/-- The program's way to tell a valid view. -/
theorem vV_code {vs : List Int} (h : vs.length = 18) (ht : topV vs = true) : vV vs = (cntVV vs && noDebt (hid vs) 6) := by
  have hs := hid_sum h ht
  rw [Bool.eq_iff_iff]
  unfold vV cntVV
  simp only [ht, Bool.true_and, Bool.and_eq_true, decide_eq_true_eq]
  constructor
  · rintro ⟨⟨h1, h2⟩, h3⟩
    have hn := (noDebt_iff _ _).1 h2
    refine ⟨⟨⟨cntOk_of (fun j hj => ?_) (by omega) 6 (by omega), by omega⟩, h1⟩, h2⟩
    have := hn j hj
    rw [hid_get h ht j hj] at this
    have := (occT_in vs j 6).1
    omega
  · rintro ⟨⟨⟨h1, h2⟩, h3⟩, h4⟩
    exact ⟨⟨h3, h4⟩, by omega⟩
/-- The model's way: hidden counts in 0..24. -/
theorem vV_spec {vs : List Int} (h : vs.length = 18) (ht : topV vs = true) (hd : ∀ c, c < 6 → 1 ≤ c → 0 ≤ (hid vs).getD c 0) : vV vs = (decide (vCnt vs 0 = 0) && decide (sumUp (hid vs) 6 - (hid vs).getD 0 0 = belUp vs 6)) := by
  have hz := hid_get h ht 0 (by omega)
  rw [occT_zero] at hz
  rw [Bool.eq_iff_iff]
  unfold vV
  simp only [ht, Bool.true_and, Bool.and_eq_true, decide_eq_true_eq]
  constructor
  · rintro ⟨⟨h1, h2⟩, h3⟩
    exact ⟨h1, by omega⟩
  · rintro ⟨h1, h2⟩
    refine ⟨⟨h1, (noDebt_iff _ _).2 fun j hj => ?_⟩, by omega⟩
    by_cases e : j = 0
    · subst e; omega
    · exact hd j hj (by omega)
theorem vV_debt {vs : List Int} (c : Nat) (hc : c < 6) (h : (hid vs).getD c 0 < 0) : vV vs = false := by
  cases hb : vV vs with
  | false => rfl
  | true =>
    unfold vV at hb
    simp only [Bool.and_eq_true, decide_eq_true_eq] at hb
    have := (noDebt_iff _ _).1 hb.1.2 c hc
    omega
theorem vV_many {vs : List Int} (h : vs.length = 18) (c : Nat) (hc : c < 6) (hm : 24 < (hid vs).getD c 0) : vV vs = false := by
  cases hb : vV vs with
  | false => rfl
  | true => have := (viewFacts h hb).each c hc; omega
theorem vV_tops {vs : List Int} (h : topV vs = false) : vV vs = false := by unfold vV; rw [h]; rfl
/-- Counts as the machine keeps them. -/
def wrL (cs : List Int) : List Int := cs.map fun x => IntKind.i64.wrap x
theorem wrL_len (cs : List Int) : (wrL cs).length = cs.length := by unfold wrL; rw [List.length_map]
theorem wrL_getD (cs : List Int) (c : Nat) : (wrL cs).getD c 0 = IntKind.i64.wrap (cs.getD c 0) := by
  unfold wrL
  rw [List.getD_eq_getElem?_getD, List.getElem?_map, List.getD_eq_getElem?_getD]
  cases cs[c]? with
  | none => rfl
  | some x => rfl
theorem wrL_less (cs : List Int) (c : Nat) : (wrL cs).set c (IntKind.i64.wrap ((wrL cs).getD c 0 - 1)) = wrL (cs.set c (cs.getD c 0 - 1)) := by
  rw [wrL_getD]
  unfold wrL
  rw [List.map_set]
  congr 1
  simp only [IntKind.wrap_i64]
  omega
theorem wrL_id {cs : List Int} (h : ∀ x ∈ cs, -9223372036854775808 ≤ x ∧ x ≤ 9223372036854775807) : wrL cs = cs := by
  unfold wrL
  rw [List.map_congr_left (g := id) (fun x hx => IntWalk.i64_in x (h x hx)), List.map_id]
end Go.Proofs.Ytemiljokdedidac.base
