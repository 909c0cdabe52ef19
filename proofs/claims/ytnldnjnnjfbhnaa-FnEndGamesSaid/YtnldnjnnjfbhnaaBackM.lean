/-
  Pouring back, in plain mathematics.
-/
import Derived.Test.YtnldnjnnjfbhnaaPourMZ
namespace Go.Proofs.Ytnldnjnnjfbhnaa.base
set_option linter.unusedVariables false
set_option linter.unusedSimpArgs false

/-- The rack behind moving m layers from p to q. -/
def moveT (ns : List Int) (p q m : Nat) : List Int := two ns p q (fromK (tub ns p) m) (toK (tub ns q) (topC (tub ns p)) m)
theorem pourT_move (ns : List Int) (p q : Nat) : pourT ns p q = moveT ns p q (canN (tub ns p) (tub ns q)) := rfl
structure MoveOk (ns : List Int) (p q m : Nat) : Prop where
  len : ns.length = 24
  v : vR ns = true
  hp : p < 6
  hq : q < 6
  ne : p ≠ q
  h0 : 0 < m
  hm : m ≤ lay (tub ns p)
  hq4 : m + lay (tub ns q) ≤ 4
section
variable {ns : List Int} {p q m : Nat}
theorem MoveOk.color (h : MoveOk ns p q m) : 1 ≤ topC (tub ns p) ∧ topC (tub ns p) ≤ 5 := by
  have F := tubeFacts (tub_len ns p h.len h.hp) (vR_tub h.v p h.hp)
  have h1 := h.h0; have h2 := h.hm; have h3 := F.none; have h4 := F.noneC; have h5 := F.c0; have h6 := F.c5
  have h7 : topC (tub ns p) ≠ 0 := fun e => by have := h3.2 (h4.1 e); omega
  omega
theorem MoveOk.fromF (h : MoveOk ns p q m) : lay (fromK (tub ns p) m) = lay (tub ns p) - m ∧ vT (fromK (tub ns p) m) = true ∧ (fromK (tub ns p) m).length = 4 :=
  fromK_facts (tub_len ns p h.len h.hp) (vR_tub h.v p h.hp) m h.hm
theorem MoveOk.toF (h : MoveOk ns p q m) : lay (toK (tub ns q) (topC (tub ns p)) m) = lay (tub ns q) + m ∧ vT (toK (tub ns q) (topC (tub ns p)) m) = true ∧ (toK (tub ns q) (topC (tub ns p)) m).length = 4 :=
  toK_facts (tub_len ns q h.len h.hq) (vR_tub h.v q h.hq) _ h.color m h.hq4
theorem MoveOk.len24 (h : MoveOk ns p q m) : (moveT ns p q m).length = 24 := two_len h.len h.hp h.hq h.fromF.2.2 h.toF.2.2
theorem MoveOk.tubP (h : MoveOk ns p q m) : tub (moveT ns p q m) p = fromK (tub ns p) m := two_p h.len h.hp h.hq h.fromF.2.2 h.toF.2.2 h.ne
theorem MoveOk.tubQ (h : MoveOk ns p q m) : tub (moveT ns p q m) q = toK (tub ns q) (topC (tub ns p)) m := two_q h.len h.hp h.hq h.fromF.2.2 h.toF.2.2
theorem MoveOk.tubO (h : MoveOk ns p q m) (o : Nat) (ho : o < 6) (h1 : o ≠ p) (h2 : o ≠ q) : tub (moveT ns p q m) o = tub ns o := two_o h.len h.hp h.hq h.fromF.2.2 h.toF.2.2 o ho h1 h2
theorem MoveOk.valid (h : MoveOk ns p q m) : vR (moveT ns p q m) = true := vR_of fun o ho => by
  by_cases e1 : o = p
  · subst e1; rw [h.tubP]; exact h.fromF.2.1
  · by_cases e2 : o = q
    · subst e2; rw [h.tubQ]; exact h.toF.2.1
    · rw [h.tubO o ho e1 e2]; exact vR_tub h.v o ho
theorem MoveOk.layP (h : MoveOk ns p q m) : lay (tub (moveT ns p q m) p) = lay (tub ns p) - m := by rw [h.tubP]; exact h.fromF.1
theorem MoveOk.layQ (h : MoveOk ns p q m) : lay (tub (moveT ns p q m) q) = lay (tub ns q) + m := by rw [h.tubQ]; exact h.toF.1
end
theorem pour_moveOk {ns : List Int} {p q : Nat} (h24 : ns.length = 24) (hv : vR ns = true) (hp : p < 6) (hq : q < 6) (hne : p ≠ q) (hpos : 0 < canN (tub ns p) (tub ns q)) : MoveOk ns p q (canN (tub ns p) (tub ns q)) := by
  have hC := canN_le (tub_len ns p h24 hp) (tub_len ns q h24 hq) (vR_tub hv p hp) (vR_tub hv q hq)
  exact ⟨h24, hv, hp, hq, hne, hpos, hC.1, hC.2.1⟩

/-- A source (i, j, m): what can be put back, what is behind, and whether it is possible. -/
def putOk (ns : List Int) (i j m : Int) : Bool := twoOk ns i j && decide (1 ≤ m) && decide (m ≤ min ((topN (tub ns j.toNat) : Nat) : Int) (4 - ((lay (tub ns i.toNat) : Nat) : Int)))
def putR (ns : List Int) (i j m : Int) : List Int := if putOk ns i j m = true then moveT ns j.toNat i.toNat m.toNat else z24
def backOk (ns : List Int) (i j m : Int) : Bool := putOk ns i j m && (pourOk (putR ns i j m) i j && decide (pourR (putR ns i j m) i j = ns))
def backR (ns : List Int) (i j m : Int) : List Int := if backOk ns i j m = true then putR ns i j m else z24
theorem putOk_of {ns : List Int} {i j m : Int} (h24 : ns.length = 24) (h : putOk ns i j m = true) : ∃ p q k : Nat, i = (p : Int) ∧ j = (q : Int) ∧ m = (k : Int) ∧ MoveOk ns q p k ∧ k ≤ topN (tub ns q) := by
  unfold putOk at h
  simp only [Bool.and_eq_true] at h
  obtain ⟨⟨h1, h2⟩, h3⟩ := h
  obtain ⟨hv, p, q, rfl, rfl, hp, hq, hne⟩ := twoOk_of h1
  have a2 := of_decide_eq_true h2
  have a3 := of_decide_eq_true h3
  have FQ := tubeFacts (tub_len ns q h24 hq) (vR_tub hv q hq)
  have FP := tubeFacts (tub_len ns p h24 hp) (vR_tub hv p hp)
  have b1 := FQ.topN
  have b2 := FP.lay4
  simp only [Int.toNat_natCast] at a3
  have a4 : m ≤ ((topN (tub ns q) : Nat) : Int) := by omega
  have a5 : m ≤ 4 - ((lay (tub ns p) : Nat) : Int) := by omega
  exact ⟨p, q, m.toNat, rfl, rfl, by omega, ⟨h24, hv, hq, hp, Ne.symm hne, by omega, by omega, by omega⟩, by omega⟩
theorem putR_len {ns : List Int} (h24 : ns.length = 24) (i j m : Int) : (putR ns i j m).length = 24 := by
  unfold putR
  split
  next h =>
    obtain ⟨p, q, k, rfl, rfl, rfl, M, _⟩ := putOk_of h24 h
    simpa using M.len24
  · rfl
theorem backR_len {ns : List Int} (h24 : ns.length = 24) (i j m : Int) : (backR ns i j m).length = 24 := by
  unfold backR
  split
  · exact putR_len h24 i j m
  · rfl
theorem back_putOk {ns : List Int} {i j m : Int} (h : backOk ns i j m = true) : putOk ns i j m = true := by
  unfold backOk at h
  simp only [Bool.and_eq_true] at h
  exact h.1
theorem back_putR {ns : List Int} {i j m : Int} (h : backOk ns i j m = true) : backR ns i j m = putR ns i j m := by unfold backR; rw [if_pos h]
theorem putR_yes {ns : List Int} {p q k : Nat} (h : putOk ns (p : Int) (q : Int) (k : Int) = true) : putR ns (p : Int) (q : Int) (k : Int) = moveT ns q p k := by
  unfold putR; rw [if_pos h]; simp
theorem backR_valid {ns : List Int} {i j m : Int} (h24 : ns.length = 24) (h : backOk ns i j m = true) : vR (backR ns i j m) = true := by
  rw [back_putR h]
  have h1 := back_putOk h
  obtain ⟨p, q, k, rfl, rfl, rfl, M, _⟩ := putOk_of h24 h1
  rw [putR_yes h1]; exact M.valid
/-- The model's way of telling whether a source is possible. -/
theorem back_iff {ns : List Int} {p q k : Nat} (h24 : ns.length = 24) (h : putOk ns (p : Int) (q : Int) (k : Int) = true) :
    backOk ns (p : Int) (q : Int) (k : Int) = (decide (0 < canN (tub (moveT ns q p k) p) (tub (moveT ns q p k) q)) && decide (pourT (moveT ns q p k) p q = ns)) ∧
    (backOk ns (p : Int) (q : Int) (k : Int) = true → canN (tub (moveT ns q p k) p) (tub (moveT ns q p k) q) = k) := by
  obtain ⟨p', q', k', e1, e2, e3, M, _⟩ := putOk_of h24 h
  obtain rfl : p = p' := by omega
  obtain rfl : q = q' := by omega
  obtain rfl : k = k' := by omega
  have V := M.valid
  have L := M.len24
  have hT := twoOk_yes V M.hq M.hp (Ne.symm M.ne)
  have e4 : backOk ns (p : Int) (q : Int) (k : Int) = (decide (0 < canN (tub (moveT ns q p k) p) (tub (moveT ns q p k) q)) && decide (pourT (moveT ns q p k) p q = ns)) := by
    unfold backOk
    rw [h, Bool.true_and, putR_yes h]
    by_cases hc : 0 < canN (tub (moveT ns q p k) p) (tub (moveT ns q p k) q)
    · have hO : pourOk (moveT ns q p k) (p : Int) (q : Int) = true := by unfold pourOk; rw [hT]; simpa using hc
      rw [hO, decide_eq_true hc]
      unfold pourR
      rw [if_pos hO]; simp
    · have hO : pourOk (moveT ns q p k) (p : Int) (q : Int) = false := by unfold pourOk; rw [hT]; simpa using hc
      rw [hO, decide_eq_false hc]; rfl
  refine ⟨e4, fun hb => ?_⟩
  rw [e4] at hb
  simp only [Bool.and_eq_true, decide_eq_true_eq] at hb
  obtain ⟨hc, hr⟩ := hb
  have P := pour_moveOk L V M.hq M.hp (Ne.symm M.ne) hc
  have l1 := P.layQ
  rw [← pourT_move, hr, M.layP] at l1
  have := M.hm
  omega
/-- No rack is twice among those before. -/
theorem back_inj {ns : List Int} {i j m i' j' m' : Int} (h24 : ns.length = 24) (h : backOk ns i j m = true) (h' : backOk ns i' j' m' = true) (e : backR ns i j m = backR ns i' j' m') : i = i' ∧ j = j' ∧ m = m' := by
  rw [back_putR h, back_putR h'] at e
  have h1 := back_putOk h
  have h2 := back_putOk h'
  obtain ⟨p, q, k, rfl, rfl, rfl, M, _⟩ := putOk_of h24 h1
  obtain ⟨p', q', k', rfl, rfl, rfl, M', _⟩ := putOk_of h24 h2
  rw [putR_yes h1, putR_yes h2] at e
  have a1 := M.layP
  have a2 := M.layQ
  have b1 := M'.layP
  have b2 := M'.layQ
  have hk := M.h0
  have hk' := M'.h0
  have hm := M.hm
  have hm' := M'.hm
  have eq : q = q' := by
    apply Classical.byContradiction
    intro hne
    by_cases e2 : q = p'
    · subst e2
      rw [e] at a1; omega
    · have := M'.tubO q M.hp hne e2
      rw [e, this] at a1; omega
  subst eq
  have ek : k = k' := by rw [e] at a1; omega
  subst ek
  have ep : p = p' := by
    apply Classical.byContradiction
    intro hne
    by_cases e2 : p = q
    · exact M.ne e2.symm
    · have := M'.tubO p M.hq e2 hne
      rw [e, this] at a2; omega
  subst ep
  exact ⟨rfl, rfl, rfl⟩
end Go.Proofs.Ytnldnjnnjfbhnaa.base
