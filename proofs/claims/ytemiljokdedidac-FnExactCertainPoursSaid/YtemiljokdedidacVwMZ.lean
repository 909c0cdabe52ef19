/-
  Views as lists of 18 numbers (tops, layers, counts) and their hidden counts: plain mathematics.
-/
/-
  Ranks of orders, and the order with a rank: plain mathematics, nothing of the program.
-/
/-
  How many candidates have a long top: plain mathematics.
-/
import Derived.Test.YtemiljokdedidacMulMZ
import Derived.IntWalk

section
namespace Go.Proofs.Ytemiljokdedidac.base
set_option linter.unusedVariables false
set_option linter.unusedSimpArgs false

/-- A part of a view: 0 its tops, 1 how many layers, 2 its counts. -/
def prt (vs : List Int) (k : Nat) : List Int := (vs.drop (k * 6)).take 6
theorem prt_len (vs : List Int) (k : Nat) (h : vs.length = 18) (hk : k < 3) : (prt vs k).length = 6 := by
  unfold prt; rw [List.length_take, List.length_drop]; omega
theorem prt_getD (vs : List Int) (k i : Nat) (hi : i < 6) : (prt vs k).getD i 0 = vs.getD (k * 6 + i) 0 := by
  unfold prt
  rw [List.getD_eq_getElem?_getD, List.getD_eq_getElem?_getD, List.getElem?_take, if_pos hi, List.getElem?_drop]
def vTop (vs : List Int) (i : Nat) : Int := (prt vs 0).getD i 0
def vMany (vs : List Int) (i : Nat) : Int := (prt vs 1).getD i 0
def vCnt (vs : List Int) (c : Nat) : Int := (prt vs 2).getD c 0

/-- A tube has as many layers as there may be, and a top if it has any. -/
def okTop (vs : List Int) (i : Nat) : Bool := decide ((1 ≤ vMany vs i ∧ vMany vs i ≤ 4 ∧ 1 ≤ vTop vs i ∧ vTop vs i ≤ 5) ∨ (vMany vs i = 0 ∧ vTop vs i = 0))
def topV (vs : List Int) : Bool := (List.range 6).all fun i => okTop vs i
theorem topV_at {vs : List Int} (h : topV vs = true) (i : Nat) (hi : i < 6) : (1 ≤ vMany vs i ∧ vMany vs i ≤ 4 ∧ 1 ≤ vTop vs i ∧ vTop vs i ≤ 5) ∨ (vMany vs i = 0 ∧ vTop vs i = 0) := by
  unfold topV at h
  have := List.all_eq_true.1 h i (by simp; exact hi)
  unfold okTop at this
  exact of_decide_eq_true this
theorem topV_of {vs : List Int} (h : ∀ i, i < 6 → okTop vs i = true) : topV vs = true := by
  unfold topV
  exact List.all_eq_true.2 fun i hi => h i (by simpa using hi)
theorem topV_not {vs : List Int} (i : Nat) (hi : i < 6) (h : okTop vs i = false) : topV vs = false := by
  cases hb : topV vs with
  | false => rfl
  | true =>
    unfold topV at hb
    have := List.all_eq_true.1 hb i (by simp; exact hi)
    rw [h] at this; cases this

/-- One less of a color, if it is one. -/
def lessAt (cs : List Int) (x : Int) : List Int := if x = 0 then cs else cs.set x.toNat (cs.getD x.toNat 0 - 1)
/-- The counts, less the first tops. -/
def hidUp (vs : List Int) : Nat → List Int
  | 0 => prt vs 2
  | i + 1 => lessAt (hidUp vs i) (vTop vs i)
theorem lessAt_len (cs : List Int) (x : Int) : (lessAt cs x).length = cs.length := by
  unfold lessAt; split
  · rfl
  · rw [List.length_set]
theorem hidUp_len (vs : List Int) (h : vs.length = 18) : ∀ i, (hidUp vs i).length = 6
  | 0 => prt_len vs 2 h (by omega)
  | i + 1 => by rw [hidUp, lessAt_len]; exact hidUp_len vs h i
/-- How often a color is among the first tops. -/
def occT (vs : List Int) (c : Nat) : Nat → Int
  | 0 => 0
  | i + 1 => occT vs c i + (if vTop vs i = (c : Int) ∧ c ≠ 0 then 1 else 0)
theorem occT_in (vs : List Int) (c : Nat) : ∀ i, 0 ≤ occT vs c i ∧ occT vs c i ≤ i
  | 0 => by simp [occT]
  | i + 1 => by
    have := occT_in vs c i
    rw [occT]; split <;> omega
theorem occT_zero (vs : List Int) : ∀ i, occT vs 0 i = 0
  | 0 => rfl
  | i + 1 => by rw [occT, occT_zero vs i]; simp
theorem hidUp_get {vs : List Int} (h : vs.length = 18) (ht : topV vs = true) (c : Nat) (hc : c < 6) : ∀ i, i ≤ 6 → (hidUp vs i).getD c 0 = vCnt vs c - occT vs c i
  | 0, _ => by rw [hidUp, occT]; unfold vCnt; omega
  | i + 1, hi => by
    have ih := hidUp_get h ht c hc i (by omega)
    have hl := hidUp_len vs h i
    have hT := topV_at ht i (by omega)
    rw [hidUp, occT]
    unfold lessAt
    split
    · rename_i e
      rw [ih, if_neg]; omega
      rintro ⟨h1, h2⟩
      omega
    · rename_i e
      rw [set_getD _ _ _ _ (by omega)]
      by_cases e2 : vTop vs i = (c : Int)
      · have e3 : (vTop vs i).toNat = c := by omega
        rw [e3, if_pos rfl, ih, if_pos ⟨e2, by omega⟩]; omega
      · rw [if_neg (by omega), ih, if_neg (by rintro ⟨h1, _⟩; exact e2 h1)]; omega
/-- The hidden counts. -/
def hid (vs : List Int) : List Int := hidUp vs 6
theorem hid_len {vs : List Int} (h : vs.length = 18) : (hid vs).length = 6 := hidUp_len vs h 6
theorem hid_get {vs : List Int} (h : vs.length = 18) (ht : topV vs = true) (c : Nat) (hc : c < 6) : (hid vs).getD c 0 = vCnt vs c - occT vs c 6 := hidUp_get h ht c hc 6 (by omega)
/-- How many layers lie below the tops of the first tubes. -/
def belUp (vs : List Int) : Nat → Int
  | 0 => 0
  | i + 1 => belUp vs i + (if vMany vs i = 0 then 0 else vMany vs i - 1)
def mnyUp (vs : List Int) : Nat → Int
  | 0 => 0
  | i + 1 => mnyUp vs i + vMany vs i
theorem belUp_in {vs : List Int} (ht : topV vs = true) : ∀ i, i ≤ 6 → 0 ≤ belUp vs i ∧ belUp vs i ≤ 3 * (i : Int)
  | 0, _ => by simp [belUp]
  | i + 1, hi => by
    have := belUp_in ht i (by omega)
    have := topV_at ht i (by omega)
    rw [belUp]; split <;> omega
theorem mnyUp_in {vs : List Int} (ht : topV vs = true) : ∀ i, i ≤ 6 → 0 ≤ mnyUp vs i ∧ mnyUp vs i ≤ 4 * (i : Int)
  | 0, _ => by simp [mnyUp]
  | i + 1, hi => by
    have := mnyUp_in ht i (by omega)
    have := topV_at ht i (by omega)
    rw [mnyUp]; omega
/-- All tubes with layers have a color's top. -/
theorem occT_all {vs : List Int} (ht : topV vs = true) : ∀ i, i ≤ 6 → occT vs 1 i + occT vs 2 i + occT vs 3 i + occT vs 4 i + occT vs 5 i = mnyUp vs i - belUp vs i
  | 0, _ => by simp [occT, mnyUp, belUp]
  | i + 1, hi => by
    have ih := occT_all ht i (by omega)
    have hT := topV_at ht i (by omega)
    simp only [occT, mnyUp, belUp]
    by_cases e : vMany vs i = 0
    · rw [if_pos e]
      have e0 : vTop vs i = 0 := by omega
      rw [e0]; simp; omega
    · rw [if_neg e]
      have : vTop vs i = 1 ∨ vTop vs i = 2 ∨ vTop vs i = 3 ∨ vTop vs i = 4 ∨ vTop vs i = 5 := by omega
      rcases this with e1 | e1 | e1 | e1 | e1 <;> rw [e1] <;> simp <;> omega
def sumUp (s : List Int) : Nat → Int
  | 0 => 0
  | c + 1 => sumUp s c + s.getD c 0
theorem sumUp_pl {s : List Int} (h : ∀ j, j < 6 → 0 ≤ s.getD j 0) : ∀ c, c ≤ 6 → sumUp s c = (plUp s c : Nat)
  | 0, _ => rfl
  | c + 1, hc => by
    have := sumUp_pl h c (by omega)
    have := h c (by omega)
    rw [sumUp, plUp]; omega
/-- A view is valid. -/
def vV (vs : List Int) : Bool := topV vs && decide (vCnt vs 0 = 0) && noDebt (hid vs) 6 && decide (sumUp (hid vs) 6 = belUp vs 6)
structure ViewFacts (vs : List Int) : Prop where
  tops : topV vs = true
  zero : (hid vs).getD 0 0 = 0
  cnt0 : vCnt vs 0 = 0
  nat : ∀ j, j < 6 → 0 ≤ (hid vs).getD j 0
  sum : sumUp (hid vs) 6 = belUp vs 6
  pl : (plUp (hid vs) 6 : Int) = belUp vs 6
  small : plUp (hid vs) 6 ≤ 18
  each : ∀ j, j < 6 → (hid vs).getD j 0 ≤ 18
theorem viewFacts {vs : List Int} (h : vs.length = 18) (hv : vV vs = true) : ViewFacts vs := by
  unfold vV at hv
  simp only [Bool.and_eq_true, decide_eq_true_eq] at hv
  obtain ⟨⟨⟨h1, h2⟩, h3⟩, h4⟩ := hv
  have hn := (noDebt_iff _ _).1 h3
  have hz : (hid vs).getD 0 0 = 0 := by rw [hid_get h h1 0 (by omega), occT_zero, h2]; rfl
  have hp := sumUp_pl hn 6 (by omega)
  have hb := belUp_in h1 6 (by omega)
  have hs : plUp (hid vs) 6 ≤ 18 := by omega
  refine ⟨h1, hz, h2, hn, h4, by omega, hs, fun j hj => ?_⟩
  have := getD_le_plUp (hid vs) j hj
  have := hn j hj
  omega
/-- How far the counts go, taken off the layers one by one. -/
def cntOk (vs : List Int) : Nat → Bool
  | 0 => true
  | c + 1 => cntOk vs c && decide (0 ≤ vCnt vs c) && decide (vCnt vs c ≤ mnyUp vs 6 - sumUp (prt vs 2) c)
theorem cntOk_nat {vs : List Int} : ∀ c, cntOk vs c = true → ∀ j, j < c → 0 ≤ vCnt vs j
  | 0, _, j, hj => by omega
  | c + 1, h, j, hj => by
    simp only [cntOk, Bool.and_eq_true, decide_eq_true_eq] at h
    by_cases e : j = c
    · subst e; exact h.1.2
    · exact cntOk_nat c h.1.1 j (by omega)
theorem cntOk_of {vs : List Int} (hn : ∀ j, j < 6 → 0 ≤ vCnt vs j) (hs : sumUp (prt vs 2) 6 ≤ mnyUp vs 6) : ∀ c, c ≤ 6 → cntOk vs c = true
  | 0, _ => rfl
  | c + 1, hc => by
    have ih := cntOk_of hn hs c (by omega)
    have hm : ∀ a b, a ≤ b → b ≤ 6 → sumUp (prt vs 2) a ≤ sumUp (prt vs 2) b := by
      intro a b hab
      induction b with
      | zero => intro _; obtain rfl : a = 0 := by omega
                exact Int.le_refl _
      | succ b jh =>
        intro hb
        by_cases e : a = b + 1
        · subst e; exact Int.le_refl _
        · have := jh (by omega) (by omega)
          have := hn b (by omega)
          unfold vCnt at this
          rw [sumUp]; omega
    have h1 := hm (c + 1) 6 (by omega) (by omega)
    have h2 := hn c (by omega)
    rw [sumUp] at h1
    simp only [cntOk, Bool.and_eq_true, decide_eq_true_eq]
    refine ⟨⟨ih, h2⟩, ?_⟩
    unfold vCnt
    omega
/-- The counts of a view with tops add up to all layers. -/
def cntVV (vs : List Int) : Bool := cntOk vs 6 && decide (mnyUp vs 6 - sumUp (prt vs 2) 6 = 0) && decide (vCnt vs 0 = 0)
theorem hid_sum {vs : List Int} (h : vs.length = 18) (ht : topV vs = true) : sumUp (hid vs) 6 = sumUp (prt vs 2) 6 - (mnyUp vs 6 - belUp vs 6) := by
  have g := fun c hc => hid_get h ht c hc
  have o := occT_all ht 6 (by omega)
  simp only [sumUp]
  rw [g 0 (by omega), g 1 (by omega), g 2 (by omega), g 3 (by omega), g 4 (by omega), g 5 (by omega), occT_zero]
  unfold vCnt
  omega
/-- The program's way to tell a valid view. -/
theorem vV_code {vs : List Int} (h : vs.length = 18) (ht : topV vs = true) : vV vs = (cntVV vs && noDebt (hid vs) 6) := by
  have hs := hid_sum h ht
  rw [Bool.eq_iff_iff]
  unfold vV cntVV
  simp only [ht, Bool.true_and, Bool.and_eq_true, decide_eq_true_eq]
  constructor
  · rintro ⟨⟨h1, h2⟩, h3⟩
    have hn := (noDebt_iff _ _).1 h2
    refine ⟨⟨⟨cntOk_of (fun j hj => ?_) (by omega) 6 (by omega), by omega⟩, h1⟩, h2⟩
    have := hn j hj
    rw [hid_get h ht j hj] at this
    have := (occT_in vs j 6).1
    omega
  · rintro ⟨⟨⟨h1, h2⟩, h3⟩, h4⟩
    exact ⟨⟨h3, h4⟩, by omega⟩
/-- The model's way: hidden counts in 0..24. -/
theorem vV_spec {vs : List Int} (h : vs.length = 18) (ht : topV vs = true) (hd : ∀ c, c < 6 → 1 ≤ c → 0 ≤ (hid vs).getD c 0) : vV vs = (decide (vCnt vs 0 = 0) && decide (sumUp (hid vs) 6 - (hid vs).getD 0 0 = belUp vs 6)) := by
  have hz := hid_get h ht 0 (by omega)
  rw [occT_zero] at hz
  rw [Bool.eq_iff_iff]
  unfold vV
  simp only [ht, Bool.true_and, Bool.and_eq_true, decide_eq_true_eq]
  constructor
  · rintro ⟨⟨h1, h2⟩, h3⟩
    exact ⟨h1, by omega⟩
  · rintro ⟨h1, h2⟩
    refine ⟨⟨h1, (noDebt_iff _ _).2 fun j hj => ?_⟩, by omega⟩
    by_cases e : j = 0
    · subst e; omega
    · exact hd j hj (by omega)
theorem vV_debt {vs : List Int} (c : Nat) (hc : c < 6) (h : (hid vs).getD c 0 < 0) : vV vs = false := by
  cases hb : vV vs with
  | false => rfl
  | true =>
    unfold vV at hb
    simp only [Bool.and_eq_true, decide_eq_true_eq] at hb
    have := (noDebt_iff _ _).1 hb.1.2 c hc
    omega
theorem vV_many {vs : List Int} (h : vs.length = 18) (c : Nat) (hc : c < 6) (hm : 24 < (hid vs).getD c 0) : vV vs = false := by
  cases hb : vV vs with
  | false => rfl
  | true => have := (viewFacts h hb).each c hc; omega
theorem vV_tops {vs : List Int} (h : topV vs = false) : vV vs = false := by unfold vV; rw [h]; rfl
/-- Counts as the machine keeps them. -/
def wrL (cs : List Int) : List Int := cs.map fun x => IntKind.i64.wrap x
theorem wrL_len (cs : List Int) : (wrL cs).length = cs.length := by unfold wrL; rw [List.length_map]
theorem wrL_getD (cs : List Int) (c : Nat) : (wrL cs).getD c 0 = IntKind.i64.wrap (cs.getD c 0) := by
  unfold wrL
  rw [List.getD_eq_getElem?_getD, List.getElem?_map, List.getD_eq_getElem?_getD]
  cases cs[c]? with
  | none => rfl
  | some x => rfl
theorem wrL_less (cs : List Int) (c : Nat) : (wrL cs).set c (IntKind.i64.wrap ((wrL cs).getD c 0 - 1)) = wrL (cs.set c (cs.getD c 0 - 1)) := by
  rw [wrL_getD]
  unfold wrL
  rw [List.map_set]
  congr 1
  simp only [IntKind.wrap_i64]
  omega
theorem wrL_id {cs : List Int} (h : ∀ x ∈ cs, -9223372036854775808 ≤ x ∧ x ≤ 9223372036854775807) : wrL cs = cs := by
  unfold wrL
  rw [List.map_congr_left (g := id) (fun x hx => IntWalk.i64_in x (h x hx)), List.map_id]
end Go.Proofs.Ytemiljokdedidac.base
end

section
namespace Go.Proofs.Ytemiljokdedidac.base
set_option linter.unusedVariables false
set_option linter.unusedSimpArgs false

/-- A stock without debts, of five colors. -/
structure Stk (s : List Int) (n : Nat) : Prop where
  len : s.length = 6
  nat : ∀ j, j < 6 → 0 ≤ s.getD j 0
  zero : s.getD 0 0 = 0
  pl : plUp s 6 = n
def less1 (s : List Int) (c : Nat) : List Int := s.set c (s.getD c 0 - 1)
theorem less1_len (s : List Int) (c : Nat) : (less1 s c).length = s.length := by unfold less1; rw [List.length_set]
theorem Stk.less {s : List Int} {n c : Nat} (h : Stk s (n + 1)) (h1 : 1 ≤ c) (hc : c < 6) (hp : 0 < s.getD c 0) : Stk (less1 s c) n := by
  obtain ⟨k, hk⟩ : ∃ k : Nat, s.getD c 0 = (k : Int) + 1 := ⟨(s.getD c 0 - 1).toNat, by omega⟩
  have e : less1 s c = s.set c (k : Int) := by unfold less1; rw [hk]; congr 1; omega
  have p := plUp_set s c k h.len hc hk
  rw [h.pl] at p
  rw [e]
  refine ⟨by rw [List.length_set]; exact h.len, set_nat h.len hc h.nat, ?_, by omega⟩
  rw [set_getD s c 0 _ (by rw [h.len]; exact hc), if_neg (by omega)]; exact h.zero
theorem Stk.le {s : List Int} {n : Nat} (h : Stk s n) : ordA s ≤ 6 ^ n := ordA_le n s h.len h.nat h.pl
theorem Stk.pos {s : List Int} {n : Nat} (h : Stk s n) : 0 < ordA s := ordA_pos h.nat
theorem Stk.each {s : List Int} {n : Nat} (h : Stk s n) (j : Nat) (hj : j < 6) : s.getD j 0 ≤ n := by
  have := getD_le_plUp s j hj
  have := h.nat j hj
  have := h.pl
  omega
theorem bef_succ (s : List Int) (c : Nat) (h1 : 1 ≤ c) : bef s (c + 1) = bef s c + ordA (less1 s c) := by
  rw [bef, if_neg (by omega)]; rfl
theorem bef_one (s : List Int) : bef s 1 = 0 := by simp [bef]
theorem bef_le (s : List Int) {a b : Nat} (h : a ≤ b) : bef s a ≤ bef s b := by
  induction b with
  | zero => obtain rfl : a = 0 := by omega
            exact Nat.le_refl _
  | succ b ih =>
    by_cases e : a = b + 1
    · subst e; exact Nat.le_refl _
    · have := ih (by omega)
      rw [bef]; omega
theorem Stk.all {s : List Int} {n : Nat} (h : Stk s (n + 1)) : bef s 6 = ordA s := bef_all s h.len h.nat h.zero (by rw [h.pl]; omega)
theorem Stk.bef_le {s : List Int} {n : Nat} (h : Stk s n) (c : Nat) (hc : c ≤ 6) : bef s c ≤ ordA s := by
  cases n with
  | zero =>
    have hz : ∀ j, 1 ≤ j → j < 6 → ordA (less1 s j) = 0 := fun j h1 hj => by
      refine ordA_not (j := j) hj ?_
      unfold less1
      rw [set_getD s j j _ (by rw [h.len]; exact hj), if_pos rfl]
      have := h.each j hj
      omega
    have : ∀ c, c ≤ 6 → bef s c = 0 := by
      intro c
      induction c with
      | zero => intro _; rfl
      | succ c ih =>
        intro hc
        by_cases e : c = 0
        · subst e; exact bef_one s
        · rw [bef_succ s c (by omega), ih (by omega), hz c (by omega) (by omega)]
    rw [this c hc]; omega
  | succ n => rw [← h.all]; exact Go.Proofs.Ytemiljokdedidac.base.bef_le s hc

/-- The color with which the order of a rank begins. -/
def pickC (s : List Int) (r : Nat) : Nat := if r < bef s 2 then 1 else if r < bef s 3 then 2 else if r < bef s 4 then 3 else if r < bef s 5 then 4 else 5
structure Picked (s : List Int) (n r c : Nat) : Prop where
  lo : 1 ≤ c
  hi : c < 6
  low : bef s c ≤ r
  high : r < bef s (c + 1)
  pos : 0 < s.getD c 0
  stk : Stk (less1 s c) n
  left : r - bef s c < ordA (less1 s c)
theorem picked {s : List Int} {n r : Nat} (h : Stk s (n + 1)) (hr : r < ordA s) : Picked s n r (pickC s r) := by
  have h6 := h.all
  obtain ⟨h1, h2, h3, h4⟩ : 1 ≤ pickC s r ∧ pickC s r < 6 ∧ bef s (pickC s r) ≤ r ∧ r < bef s (pickC s r + 1) := by
    have b1 := bef_one s
    unfold pickC
    by_cases e2 : r < bef s 2
    · rw [if_pos e2]; exact ⟨by omega, by omega, by omega, e2⟩
    · rw [if_neg e2]
      by_cases e3 : r < bef s 3
      · rw [if_pos e3]; exact ⟨by omega, by omega, by omega, e3⟩
      · rw [if_neg e3]
        by_cases e4 : r < bef s 4
        · rw [if_pos e4]; exact ⟨by omega, by omega, by omega, e4⟩
        · rw [if_neg e4]
          by_cases e5 : r < bef s 5
          · rw [if_pos e5]; exact ⟨by omega, by omega, by omega, e5⟩
          · rw [if_neg e5]; exact ⟨by omega, by omega, by omega, by rw [h6]; exact hr⟩
  generalize pickC s r = c at *
  have e := bef_succ s c h1
  have hp : 0 < s.getD c 0 := by
    refine Decidable.byContradiction fun hn => ?_
    have : ordA (less1 s c) = 0 := ordA_not (j := c) h2 (by unfold less1; rw [set_getD s c c _ (by rw [h.len]; exact h2), if_pos rfl]; omega)
    omega
  exact ⟨h1, h2, h3, h4, hp, h.less h1 h2 hp, by omega⟩
theorem pick_unique {s : List Int} {n r : Nat} (h : Stk s (n + 1)) (hr : r < ordA s) (c : Nat) (h1 : bef s c ≤ r) (h2 : r < bef s (c + 1)) : pickC s r = c := by
  have P := picked h hr
  have p1 := P.low
  have p2 := P.high
  generalize pickC s r = d at *
  rcases Nat.lt_trichotomy d c with g | g | g
  · have := bef_le s (show d + 1 ≤ c by omega); omega
  · exact g
  · have := bef_le s (show c + 1 ≤ d by omega); omega
/-- The stock and the rank behind some layers of the order with a rank. -/
def pt (s : List Int) (r : Nat) : Nat → List Int × Nat
  | 0 => (s, r)
  | k + 1 => (less1 (pt s r k).1 (pickC (pt s r k).1 (pt s r k).2), (pt s r k).2 - bef (pt s r k).1 (pickC (pt s r k).1 (pt s r k).2))
def colAt (s : List Int) (r k : Nat) : Nat := pickC (pt s r k).1 (pt s r k).2
theorem pt_ok {s : List Int} {n r : Nat} (h : Stk s n) (hr : r < ordA s) : ∀ k, k ≤ n → Stk (pt s r k).1 (n - k) ∧ (pt s r k).2 < ordA (pt s r k).1
  | 0, _ => ⟨h, hr⟩
  | k + 1, hk => by
    obtain ⟨h1, h2⟩ := pt_ok h hr k (by omega)
    obtain ⟨m, hm⟩ : ∃ m, n - k = m + 1 := ⟨n - k - 1, by omega⟩
    rw [hm] at h1
    have P := picked h1 h2
    rw [show n - (k + 1) = m by omega]
    exact ⟨P.stk, P.left⟩
theorem colAt_ok {s : List Int} {n r : Nat} (h : Stk s n) (hr : r < ordA s) (k : Nat) (hk : k < n) : Picked (pt s r k).1 (n - k - 1) (pt s r k).2 (colAt s r k) := by
  obtain ⟨h1, h2⟩ := pt_ok h hr k (by omega)
  rw [show n - k = n - k - 1 + 1 by omega] at h1
  exact picked h1 h2
/-- The stock and the rank behind some layers of an order that is told. -/
def rk (s : List Int) (f : Nat → Nat) : Nat → List Int × Nat
  | 0 => (s, 0)
  | k + 1 => (less1 (rk s f k).1 (f k), (rk s f k).2 + bef (rk s f k).1 (f k))
/-- An order has the layers of the stock. -/
def Fits (s : List Int) (f : Nat → Nat) (n : Nat) : Prop := ∀ k, k < n → 1 ≤ f k ∧ f k < 6 ∧ 0 < (rk s f k).1.getD (f k) 0
theorem rk_ok {s : List Int} {n : Nat} {f : Nat → Nat} (h : Stk s n) (hf : Fits s f n) : ∀ k, k ≤ n → Stk (rk s f k).1 (n - k) ∧ (rk s f k).2 + ordA (rk s f k).1 ≤ ordA s
  | 0, _ => ⟨h, by simp [rk]⟩
  | k + 1, hk => by
    obtain ⟨h1, h2⟩ := rk_ok h hf k (by omega)
    obtain ⟨f1, f2, f3⟩ := hf k (by omega)
    obtain ⟨m, hm⟩ : ∃ m, n - k = m + 1 := ⟨n - k - 1, by omega⟩
    rw [hm] at h1
    rw [show n - (k + 1) = m by omega]
    refine ⟨h1.less f1 f2 f3, ?_⟩
    have e := bef_succ (rk s f k).1 (f k) f1
    have l := h1.bef_le (f k + 1) (by omega)
    show (rk s f k).2 + bef (rk s f k).1 (f k) + ordA (less1 (rk s f k).1 (f k)) ≤ ordA s
    omega
/-- The order with a rank has it. -/
theorem rk_pt {s : List Int} {n r : Nat} (h : Stk s n) (hr : r < ordA s) : ∀ k, k ≤ n → (rk s (colAt s r) k).1 = (pt s r k).1 ∧ (rk s (colAt s r) k).2 + (pt s r k).2 = r
  | 0, _ => ⟨rfl, by simp [rk, pt]⟩
  | k + 1, hk => by
    obtain ⟨h1, h2⟩ := rk_pt h hr k (by omega)
    have P := colAt_ok h hr k (by omega)
    have l := P.low
    refine ⟨?_, ?_⟩
    · show less1 (rk s (colAt s r) k).1 (colAt s r k) = less1 (pt s r k).1 (colAt s r k)
      rw [h1]
    · show (rk s (colAt s r) k).2 + bef (rk s (colAt s r) k).1 (colAt s r k) + ((pt s r k).2 - bef (pt s r k).1 (colAt s r k)) = r
      rw [h1]; omega
theorem pt_fits {s : List Int} {n r : Nat} (h : Stk s n) (hr : r < ordA s) : Fits s (colAt s r) n := fun k hk => by
  have P := colAt_ok h hr k hk
  rw [(rk_pt h hr k (by omega)).1]
  exact ⟨P.lo, P.hi, P.pos⟩
theorem ordA_empty {s : List Int} (h : Stk s 0) : ordA s = 1 := by
  have := h.le
  have := h.pos
  simp at *
  omega
theorem rank_of {s : List Int} {n r : Nat} (h : Stk s n) (hr : r < ordA s) : (rk s (colAt s r) n).2 = r := by
  obtain ⟨h1, h2⟩ := rk_pt h hr n (Nat.le_refl _)
  obtain ⟨h3, h4⟩ := pt_ok h hr n (Nat.le_refl _)
  rw [Nat.sub_self] at h3
  have := ordA_empty h3
  omega
/-- An order has the layers of the order with its rank. -/
theorem pt_rk {s : List Int} {n : Nat} {f : Nat → Nat} (h : Stk s n) (hf : Fits s f n) : ∀ k, k ≤ n → (pt s (rk s f n).2 k).1 = (rk s f k).1 ∧ (pt s (rk s f n).2 k).2 + (rk s f k).2 = (rk s f n).2 := by
  have hend : ∀ k, k ≤ n → (rk s f k).2 ≤ (rk s f n).2 ∧ (rk s f n).2 < (rk s f k).2 + ordA (rk s f k).1 := by
    suffices ∀ d k, k + d = n → (rk s f k).2 ≤ (rk s f n).2 ∧ (rk s f n).2 < (rk s f k).2 + ordA (rk s f k).1 from fun k hk => this (n - k) k (by omega)
    intro d
    induction d with
    | zero =>
      intro k hk
      obtain rfl : k = n := by omega
      have := (rk_ok h hf k (Nat.le_refl _)).1.pos
      omega
    | succ d ih =>
      intro k hk
      have i := ih (k + 1) (by omega)
      obtain ⟨f1, f2, f3⟩ := hf k (by omega)
      have e := bef_succ (rk s f k).1 (f k) f1
      have l := (rk_ok h hf k (by omega)).1.bef_le (f k + 1) (by omega)
      have i1 : (rk s f k).2 + bef (rk s f k).1 (f k) ≤ (rk s f n).2 := i.1
      have i2 : (rk s f n).2 < (rk s f k).2 + bef (rk s f k).1 (f k) + ordA (less1 (rk s f k).1 (f k)) := i.2
      omega
  intro k
  induction k with
  | zero => intro _; exact ⟨rfl, by simp [rk, pt]⟩
  | succ k ih =>
    intro hk
    obtain ⟨h1, h2⟩ := ih (by omega)
    obtain ⟨f1, f2, f3⟩ := hf k (by omega)
    have O := rk_ok h hf k (by omega)
    have e := bef_succ (rk s f k).1 (f k) f1
    have E1 := hend k (by omega)
    have E2 := hend (k + 1) hk
    have i1 : (rk s f k).2 + bef (rk s f k).1 (f k) ≤ (rk s f n).2 := E2.1
    have i2 : (rk s f n).2 < (rk s f k).2 + bef (rk s f k).1 (f k) + ordA (less1 (rk s f k).1 (f k)) := E2.2
    have hS := O.1
    rw [show n - k = n - k - 1 + 1 by omega] at hS
    have hpk : pickC (pt s (rk s f n).2 k).1 (pt s (rk s f n).2 k).2 = f k := by
      rw [h1]
      exact pick_unique hS (by omega) (f k) (by omega) (by omega)
    refine ⟨?_, ?_⟩
    · show less1 (pt s (rk s f n).2 k).1 (pickC (pt s (rk s f n).2 k).1 (pt s (rk s f n).2 k).2) = less1 (rk s f k).1 (f k)
      rw [hpk, h1]
    · show (pt s (rk s f n).2 k).2 - bef (pt s (rk s f n).2 k).1 (pickC (pt s (rk s f n).2 k).1 (pt s (rk s f n).2 k).2) + ((rk s f k).2 + bef (rk s f k).1 (f k)) = (rk s f n).2
      rw [hpk, h1]; omega
theorem colAt_rk {s : List Int} {n : Nat} {f : Nat → Nat} (h : Stk s n) (hf : Fits s f n) (k : Nat) (hk : k < n) : colAt s (rk s f n).2 k = f k := by
  have O := rk_ok h hf n (Nat.le_refl _)
  have hr : (rk s f n).2 < ordA s := by have := O.1.pos; omega
  obtain ⟨h1, h2⟩ := pt_rk h hf k (by omega)
  obtain ⟨h3, h4⟩ := pt_rk h hf (k + 1) (by omega)
  have P := colAt_ok h hr k hk
  obtain ⟨f1, f2, f3⟩ := hf k hk
  have e : less1 (pt s (rk s f n).2 k).1 (colAt s (rk s f n).2 k) = less1 (rk s f k).1 (f k) := h3
  rw [h1] at e
  refine Decidable.byContradiction fun hne => ?_
  have g := congrArg (fun l => l.getD (f k) 0) e
  have hS := (rk_ok h hf k (by omega)).1
  unfold less1 at g
  rw [set_getD _ _ _ _ (by rw [hS.len]; exact P.hi), set_getD _ _ _ _ (by rw [hS.len]; exact f2), if_neg (fun e => hne e.symm), if_pos rfl] at g
  omega
end Go.Proofs.Ytemiljokdedidac.base
end

section
namespace Go.Proofs.Ytemiljokdedidac.base
set_option linter.unusedVariables false
set_option linter.unusedSimpArgs false

/-- The color of a tube's top. -/
def colT (vs : List Int) (i : Nat) : Nat := (vTop vs i).toNat
/-- How many candidates have a top of at least l layers in the tube i. -/
def longN (vs : List Int) (i l : Nat) : Nat := if (l : Int) ≤ vMany vs i then leftN (hid vs) (colT vs i) (l - 1) else 0
structure TopFacts (vs : List Int) (i : Nat) (m : Nat) (c : Nat) : Prop where
  many : vMany vs i = (m : Int)
  top : vTop vs i = (c : Int)
  m1 : 1 ≤ m
  m4 : m ≤ 4
  c1 : 1 ≤ c
  c6 : c < 6
  col : colT vs i = c
  room : m - 1 ≤ plUp (hid vs) 6
theorem bel_one {vs : List Int} (ht : topV vs = true) (i : Nat) (hi : i < 6) (m : Nat) (hm : vMany vs i = (m : Int)) (h1 : 1 ≤ m) : (m : Int) - 1 ≤ belUp vs 6 := by
  have key : ∀ j, i + 1 ≤ j → j ≤ 6 → (m : Int) - 1 ≤ belUp vs j := by
    intro j
    induction j with
    | zero => intro h _; omega
    | succ j ih =>
      intro h1 h2
      have hb := belUp_in ht j (by omega)
      rw [belUp]
      by_cases e : i = j
      · subst e; rw [hm]; split <;> omega
      · have := ih (by omega) (by omega)
        have := topV_at ht j (by omega)
        split <;> omega
  exact key 6 (by omega) (by omega)
theorem topFacts {vs : List Int} (h : vs.length = 18) (hv : vV vs = true) (i : Nat) (hi : i < 6) (hm : vMany vs i ≠ 0) : ∃ m c, TopFacts vs i m c := by
  have F := viewFacts h hv
  have T := topV_at F.tops i hi
  refine ⟨(vMany vs i).toNat, (vTop vs i).toNat, by omega, by omega, by omega, by omega, by omega, by omega, rfl, ?_⟩
  have hb := bel_one F.tops i hi (vMany vs i).toNat (by omega) (by omega)
  have := F.pl
  omega
theorem hid_stk {vs : List Int} (h : vs.length = 18) (hv : vV vs = true) : Stk (hid vs) (plUp (hid vs) 6) := by
  have F := viewFacts h hv
  exact ⟨hid_len h, F.nat, F.zero, rfl⟩
theorem long_one {vs : List Int} {i m c : Nat} (h : vs.length = 18) (T : TopFacts vs i m c) : longN vs i 1 = ordA (hid vs) := by
  unfold longN
  rw [if_pos (by rw [T.many]; have := T.m1; omega), T.col]
  exact left_zero (hid vs) c (hid_len h) T.c6
theorem long_yes {vs : List Int} {i m c l : Nat} (T : TopFacts vs i m c) (hl : l ≤ m) : longN vs i l = leftN (hid vs) c (l - 1) := by
  unfold longN
  rw [if_pos (by rw [T.many]; omega), T.col]
theorem long_no {vs : List Int} {i m c l : Nat} (T : TopFacts vs i m c) (hl : m < l) : longN vs i l = 0 := by
  unfold longN
  rw [if_neg (by rw [T.many]; omega)]
theorem long_mono {vs : List Int} {i m c : Nat} (h : vs.length = 18) (hv : vV vs = true) (T : TopFacts vs i m c) (l : Nat) (h1 : 1 ≤ l) : longN vs i (l + 1) ≤ longN vs i l := by
  by_cases hl : l + 1 ≤ m
  · rw [long_yes T hl, long_yes T (by omega)]
    have F := viewFacts h hv
    have := left_mono (hid vs) c (l - 1) (hid_len h) T.c6 F.nat (by have := T.room; omega)
    rw [show l + 1 - 1 = l - 1 + 1 by omega]; exact this
  · rw [long_no T (by omega)]; omega
theorem long_le {vs : List Int} {i m c : Nat} (h : vs.length = 18) (hv : vV vs = true) (T : TopFacts vs i m c) : ∀ l, 1 ≤ l → longN vs i l ≤ ordA (hid vs)
  | 0, h0 => by omega
  | l + 1, _ => by
    by_cases e : l = 0
    · subst e; rw [long_one h T]; omega
    · exact Nat.le_trans (long_mono h hv T l (by omega)) (long_le h hv T l (by omega))
end Go.Proofs.Ytemiljokdedidac.base
end
