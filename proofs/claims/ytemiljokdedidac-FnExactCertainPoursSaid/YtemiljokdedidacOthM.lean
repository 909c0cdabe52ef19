/-
  Other tubes: depths, rules and how many layers they move, in plain mathematics.
-/
import Derived.Test.YtemiljokdedidacBackM
namespace Go.Proofs.Ytemiljokdedidac.base
set_option linter.unusedVariables false
set_option linter.unusedSimpArgs false

/-- Six numbers are depths. -/
def vD (ds : List Int) : Bool := (List.range 6).all fun i => decide (1 ≤ ds.getD i 0 ∧ ds.getD i 0 ≤ 4)
/-- No tube has more layers than its depth. -/
def inD (ns ds : List Int) : Bool := (List.range 6).all fun i => decide (((many (tub ns i) : Nat) : Int) ≤ ds.getD i 0)
def okD (ns ds : List Int) : Bool := vR ns && vD ds
/-- A rack is valid for depths. -/
def fitA (ns ds : List Int) : Bool := okD ns ds && inD ns ds
def ruleV (x : Int) : Bool := decide (1 ≤ x ∧ x ≤ 4)
/-- How many layers a rule moves from a tube to another one with this room. -/
def mvT (rule : Int) (s t : List Int) (room : Nat) : Nat :=
  if topN s = 0 ∨ room = 0 ∨ (rule ≠ 4 ∧ topC t ≠ 0 ∧ topC t ≠ topC s) then 0
  else if rule = 1 then min (topN s) room
  else if rule = 3 then (if room < topN s then 0 else topN s)
  else 1
def roomD (ns ds : List Int) (q : Nat) : Nat := (ds.getD q 0 - ((lay (tub ns q) : Nat) : Int)).toNat
def mvN (ns ds : List Int) (rule : Int) (p q : Nat) : Nat := if p = q then 0 else mvT rule (tub ns p) (tub ns q) (roomD ns ds q)

theorem mvT_le (rule : Int) (s t : List Int) (room : Nat) : mvT rule s t room ≤ topN s ∧ mvT rule s t room ≤ room := by
  unfold mvT
  by_cases h : topN s = 0 ∨ room = 0 ∨ (rule ≠ 4 ∧ topC t ≠ 0 ∧ topC t ≠ topC s)
  · rw [if_pos h]; omega
  · rw [if_neg h]
    have h1 : topN s ≠ 0 := fun e => h (.inl e)
    have h2 : room ≠ 0 := fun e => h (.inr (.inl e))
    split
    · omega
    · split
      · split <;> omega
      · omega
section
variable {s t : List Int} {room : Nat}
theorem mv_cases (FS : TubeFacts s) (FT : TubeFacts t) (hr : room + lay t ≤ 4) :
    (canN s t = 0 ∧ (topN s = 0 ∨ room = 0 ∨ (topC t ≠ 0 ∧ topC t ≠ topC s))) ∨ (room = 0 ∧ lay t = 4) ∨ (room = 0 ∧ lay t < 4) ∨
      (topN s ≠ 0 ∧ room ≠ 0 ∧ (topC t = 0 ∨ topC t = topC s) ∧ canN s t = min (topN s) (4 - lay t)) := by
  have h1 := FT.none
  have h2 := FT.noneC
  by_cases h0 : topN s = 0
  · refine .inl ⟨?_, .inl h0⟩
    unfold canN; rw [h0]; split <;> simp
  · by_cases hr0 : room = 0
    · have := FT.lay4
      rcases Nat.lt_or_ge (lay t) 4 with h | h
      · exact .inr (.inr (.inl ⟨hr0, h⟩))
      · exact .inr (.inl ⟨hr0, by omega⟩)
    · by_cases hc : topC t ≠ 0 ∧ topC t ≠ topC s
      · refine .inl ⟨?_, .inr (.inr hc)⟩
        unfold canN
        rw [if_pos ⟨fun e => hc.1 (h2.2 (h1.1 e)), hc.2⟩]
      · refine .inr (.inr (.inr ⟨h0, hr0, ?_, ?_⟩))
        · by_cases e : topC t = 0
          · exact .inl e
          · exact .inr (Classical.byContradiction fun e2 => hc ⟨e, e2⟩)
        · unfold canN
          rw [if_neg]
          rintro ⟨e1, e2⟩
          exact hc ⟨fun e => e1 (h1.2 (h2.1 e)), e2⟩
theorem mv_pour (FS : TubeFacts s) (FT : TubeFacts t) (hr : room + lay t ≤ 4) : mvT 1 s t room = min (canN s t) room := by
  unfold mvT
  rcases mv_cases FS FT hr with ⟨e, h⟩ | ⟨e, h⟩ | ⟨e, h⟩ | ⟨h0, h1, h2, e⟩
  · rw [e, Nat.zero_min, if_pos]
    rcases h with h | h | h
    · exact .inl h
    · exact Or.inr (Or.inl h)
    · exact Or.inr (Or.inr ⟨by decide, h⟩)
  · have r : min (canN s t) room = 0 := by omega
    rw [r]; exact if_pos (Or.inr (Or.inl e))
  · have r : min (canN s t) room = 0 := by omega
    rw [r]; exact if_pos (Or.inr (Or.inl e))
  · rw [if_neg (by rintro (h | h | h); exact h0 h; exact h1 h; rcases h2 with h2 | h2; exact h.2.1 h2; exact h.2.2 h2), if_pos rfl, e]
    omega
theorem mv_drop (FS : TubeFacts s) (FT : TubeFacts t) (hr : room + lay t ≤ 4) : mvT 2 s t room = min (min (canN s t) room) 1 := by
  unfold mvT
  rcases mv_cases FS FT hr with ⟨e, h⟩ | ⟨e, h⟩ | ⟨e, h⟩ | ⟨h0, h1, h2, e⟩
  · rw [e, Nat.zero_min, Nat.zero_min, if_pos]
    rcases h with h | h | h
    · exact .inl h
    · exact Or.inr (Or.inl h)
    · exact Or.inr (Or.inr ⟨by decide, h⟩)
  · have r : min (min (canN s t) room) 1 = 0 := by omega
    rw [r]; exact if_pos (Or.inr (Or.inl e))
  · have r : min (min (canN s t) room) 1 = 0 := by omega
    rw [r]; exact if_pos (Or.inr (Or.inl e))
  · rw [if_neg (by rintro (h | h | h); exact h0 h; exact h1 h; rcases h2 with h2 | h2; exact h.2.1 h2; exact h.2.2 h2), if_neg (by decide), if_neg (by decide), e]
    omega
theorem mv_strict (FS : TubeFacts s) (FT : TubeFacts t) (hr : room + lay t ≤ 4) : mvT 3 s t room = if room < topN s then 0 else canN s t := by
  unfold mvT
  rcases mv_cases FS FT hr with ⟨e, h⟩ | ⟨e, h⟩ | ⟨e, h⟩ | ⟨h0, h1, h2, e⟩
  · rw [e, if_pos]
    · split <;> rfl
    · rcases h with h | h | h
      · exact .inl h
      · exact .inr (.inl h)
      · exact .inr (.inr ⟨by decide, h⟩)
  · refine (if_pos (Or.inr (Or.inl e))).trans ?_
    split
    · rfl
    · have : topN s = 0 := by omega
      unfold canN; rw [this]; split <;> simp
  · refine (if_pos (Or.inr (Or.inl e))).trans ?_
    split
    · rfl
    · have : topN s = 0 := by omega
      unfold canN; rw [this]; split <;> simp
  · rw [if_neg (by rintro (h | h | h); exact h0 h; exact h1 h; rcases h2 with h2 | h2; exact h.2.1 h2; exact h.2.2 h2), if_neg (by decide), if_pos rfl, e]
    split
    · rfl
    · omega
theorem mv_loose (FS : TubeFacts s) : mvT 4 s t room = min (min (lay s) room) 1 := by
  have h1 := FS.none
  unfold mvT
  by_cases h : topN s = 0 ∨ room = 0
  · rw [if_pos (by rcases h with h | h; exact .inl h; exact .inr (.inl h))]
    have : lay s = 0 ∨ room = 0 := by omega
    omega
  · rw [if_neg (by rintro (e | e | e); exact h (.inl e); exact h (.inr e); exact e.1 rfl), if_neg (by decide), if_neg (by decide)]
    have : lay s ≠ 0 := by omega
    omega
end
theorem okD_of {ns ds : List Int} (h : okD ns ds = true) : vR ns = true ∧ vD ds = true := by
  unfold okD at h; exact Bool.and_eq_true_iff.1 h
theorem fit_of {ns ds : List Int} (h : fitA ns ds = true) : vR ns = true ∧ vD ds = true ∧ inD ns ds = true := by
  unfold fitA at h
  have h1 := Bool.and_eq_true_iff.1 h
  exact ⟨(okD_of h1.1).1, (okD_of h1.1).2, h1.2⟩
theorem vD_at {ds : List Int} (h : vD ds = true) (q : Nat) (hq : q < 6) : 1 ≤ ds.getD q 0 ∧ ds.getD q 0 ≤ 4 :=
  of_decide_eq_true (List.all_eq_true.1 h q (List.mem_range.2 hq))
theorem inD_at {ns ds : List Int} (h : inD ns ds = true) (q : Nat) (hq : q < 6) : ((many (tub ns q) : Nat) : Int) ≤ ds.getD q 0 :=
  of_decide_eq_true (List.all_eq_true.1 h q (List.mem_range.2 hq))
theorem lay_many {ns : List Int} (h24 : ns.length = 24) (hv : vR ns = true) (q : Nat) (hq : q < 6) : many (tub ns q) = lay (tub ns q) := (tubeFacts (tub_len ns q h24 hq) (vR_tub hv q hq)).many
theorem room_eq {ns ds : List Int} (h24 : ns.length = 24) (h : fitA ns ds = true) (q : Nat) (hq : q < 6) : ((roomD ns ds q : Nat) : Int) = ds.getD q 0 - ((lay (tub ns q) : Nat) : Int) ∧ roomD ns ds q + lay (tub ns q) ≤ 4 := by
  obtain ⟨h1, h2, h3⟩ := fit_of h
  have a := vD_at h2 q hq
  have b := inD_at h3 q hq
  rw [lay_many h24 h1 q hq] at b
  unfold roomD
  omega
theorem mv_moveOk {ns ds : List Int} {rule : Int} {p q : Nat} (h24 : ns.length = 24) (h : fitA ns ds = true) (hp : p < 6) (hq : q < 6) (hpos : 0 < mvN ns ds rule p q) : MoveOk ns p q (mvN ns ds rule p q) := by
  obtain ⟨h1, h2, h3⟩ := fit_of h
  have hne : p ≠ q := fun e => by unfold mvN at hpos; rw [if_pos e] at hpos; omega
  have FS := tubeFacts (tub_len ns p h24 hp) (vR_tub h1 p hp)
  have L := mvT_le rule (tub ns p) (tub ns q) (roomD ns ds q)
  have R := room_eq h24 h q hq
  have T := FS.topN
  refine ⟨h24, h1, hp, hq, hne, hpos, ?_, ?_⟩
  · unfold mvN; rw [if_neg hne]; omega
  · unfold mvN; rw [if_neg hne]; omega

/-- A pour by a rule: whether it is possible, what is behind, how many layers are moved. -/
def pbOk (ns ds : List Int) (rule i j : Int) : Bool := (fitA ns ds && ruleV rule) && (decide (0 ≤ i ∧ i < 6) && decide (0 ≤ j ∧ j < 6) && decide (0 < mvN ns ds rule i.toNat j.toNat))
def pbR (ns ds : List Int) (rule i j : Int) : List Int := if pbOk ns ds rule i j = true then moveT ns i.toNat j.toNat (mvN ns ds rule i.toNat j.toNat) else z24
def pbN (ns ds : List Int) (rule i j : Int) : Int := if pbOk ns ds rule i j = true then ((mvN ns ds rule i.toNat j.toNat : Nat) : Int) else 0
theorem pbOk_of {ns ds : List Int} {rule i j : Int} (h : pbOk ns ds rule i j = true) : fitA ns ds = true ∧ ruleV rule = true ∧ ∃ p q : Nat, i = (p : Int) ∧ j = (q : Int) ∧ p < 6 ∧ q < 6 ∧ 0 < mvN ns ds rule p q := by
  unfold pbOk at h
  simp only [Bool.and_eq_true, decide_eq_true_eq] at h
  obtain ⟨⟨h1, h2⟩, ⟨h3, h4⟩, h5⟩ := h
  exact ⟨h1, h2, i.toNat, j.toNat, by omega, by omega, by omega, by omega, h5⟩
theorem pbR_len {ns ds : List Int} (h24 : ns.length = 24) (rule i j : Int) : (pbR ns ds rule i j).length = 24 := by
  unfold pbR
  split
  next h =>
    obtain ⟨hf, _, p, q, rfl, rfl, hp, hq, hpos⟩ := pbOk_of h
    simp only [Int.toNat_natCast]
    exact (mv_moveOk h24 hf hp hq hpos).len24
  · rfl
theorem pb_no {ns ds : List Int} {rule i j : Int} (h : pbOk ns ds rule i j = false) : pbR ns ds rule i j = z24 ∧ pbN ns ds rule i j = 0 := by
  unfold pbR pbN; rw [h]; exact ⟨rfl, rfl⟩
theorem pb_yes {ns ds : List Int} {rule : Int} {p q : Nat} (h : pbOk ns ds rule (p : Int) (q : Int) = true) : pbR ns ds rule (p : Int) (q : Int) = moveT ns p q (mvN ns ds rule p q) ∧ pbN ns ds rule (p : Int) (q : Int) = ((mvN ns ds rule p q : Nat) : Int) := by
  unfold pbR pbN; rw [if_pos h, if_pos h]; simp

/-- The pairs of places among the first m that are chosen, flat. -/
def pF (P : Nat → Nat → Bool) : Nat → List Int
  | 0 => []
  | m + 1 => if P (m / 6) (m % 6) = true then pF P m ++ [((m / 6 : Nat) : Int), ((m % 6 : Nat) : Int)] else pF P m
def pN (P : Nat → Nat → Bool) (m : Nat) : Nat := (pF P m).length / 2
theorem pF_yes (P : Nat → Nat → Bool) (p q : Nat) (hq : q < 6) (h : P p q = true) : pF P (p * 6 + (q + 1)) = pF P (p * 6 + q) ++ [(p : Int), (q : Int)] := by
  have e1 : (p * 6 + q) / 6 = p := by omega
  have e2 : (p * 6 + q) % 6 = q := by omega
  rw [show p * 6 + (q + 1) = (p * 6 + q) + 1 by omega, pF, e1, e2, if_pos h]
theorem pF_no (P : Nat → Nat → Bool) (p q : Nat) (hq : q < 6) (h : P p q = false) : pF P (p * 6 + (q + 1)) = pF P (p * 6 + q) := by
  have e1 : (p * 6 + q) / 6 = p := by omega
  have e2 : (p * 6 + q) % 6 = q := by omega
  rw [show p * 6 + (q + 1) = (p * 6 + q) + 1 by omega, pF, e1, e2, if_neg (by rw [h]; decide)]
theorem pN_yes (P : Nat → Nat → Bool) (p q : Nat) (hq : q < 6) (h : P p q = true) : pN P (p * 6 + (q + 1)) = pN P (p * 6 + q) + 1 := by
  unfold pN; rw [pF_yes P p q hq h, List.length_append]; simp
theorem pN_no (P : Nat → Nat → Bool) (p q : Nat) (hq : q < 6) (h : P p q = false) : pN P (p * 6 + (q + 1)) = pN P (p * 6 + q) := by
  unfold pN; rw [pF_no P p q hq h]
theorem pN_le (P : Nat → Nat → Bool) : ∀ m, pN P m ≤ m
  | 0 => by unfold pN; rw [pF]; simp
  | m + 1 => by
    have := pN_le P m
    unfold pN at this ⊢
    rw [pF]
    split
    · rw [List.length_append]; simp; omega
    · omega
theorem p0 (P : Nat → Nat → Bool) : pN P 0 = 0 ∧ pF P 0 = [] := ⟨by unfold pN; rw [pF]; rfl, rfl⟩
theorem pF_len (P : Nat → Nat → Bool) : ∀ m, (pF P m).length = pN P m * 2
  | 0 => by rw [(p0 P).1, (p0 P).2]; rfl
  | m + 1 => by
    have := pF_len P m
    unfold pN at this ⊢
    rw [pF]
    split
    · rw [List.length_append]; simp; omega
    · exact this
/-- The pours by a rule. -/
def byP (ns ds : List Int) (rule : Int) (p q : Nat) : Bool := decide (0 < mvN ns ds rule p q)
def byOk (ns ds : List Int) (rule : Int) : Bool := fitA ns ds && ruleV rule
def byFA (ns ds : List Int) (rule : Int) : List Int := if byOk ns ds rule = true then pF (byP ns ds rule) 36 else []
def byNA (ns ds : List Int) (rule : Int) : Nat := if byOk ns ds rule = true then pN (byP ns ds rule) 36 else 0
theorem byNA_le (ns ds : List Int) (rule : Int) : byNA ns ds rule ≤ 36 := by
  unfold byNA
  split
  · exact pN_le _ 36
  · omega
end Go.Proofs.Ytemiljokdedidac.base
