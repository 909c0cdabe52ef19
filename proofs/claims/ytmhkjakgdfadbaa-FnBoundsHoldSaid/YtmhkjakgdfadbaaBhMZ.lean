/-
  What the bounds promise: runs, bottoms, the bound and the spare runs, and how a pour changes them: plain mathematics.
-/
/-
  The bound is 0 exactly if the rack is sorted: plain mathematics.
-/
import Derived.Test.YtmhkjakgdfadbaaBndX
import Derived.Test.YtmhkjakgdfadbaaSort
import Derived.Test.YtmhkjakgdfadbaaPMath

section
namespace Go.Proofs.Ytmhkjakgdfadbaa.base
set_option linter.unusedVariables false
set_option linter.unusedSimpArgs false

/-! the bottoms -/
theorem bT_in {ns : List Int} (h24 : ns.length = 24) (hv : vR ns = true) (o : Nat) (ho : o < 6) : 0 ≤ bT (tub ns o) ∧ bT (tub ns o) ≤ 5 := by
  have := vR_all h24 hv (o * 4) (by omega)
  have e := tub_getD ns o 0 (by omega)
  unfold bT
  rw [e, Nat.add_zero]; exact this
theorem ind_all {x : Int} (h : 0 ≤ x ∧ x ≤ 5) : ind x 0 + ind x 1 + ind x 2 + ind x 3 + ind x 4 + ind x 5 = 1 := by
  have : x = 0 ∨ x = 1 ∨ x = 2 ∨ x = 3 ∨ x = 4 ∨ x = 5 := by omega
  rcases this with rfl | rfl | rfl | rfl | rfl | rfl <;> decide
theorem occ_sum {ns : List Int} (h24 : ns.length = 24) (hv : vR ns = true) : occ ns 0 + occ ns 1 + occ ns 2 + occ ns 3 + occ ns 4 + occ ns 5 = 6 := by
  have h : ∀ n : Nat, n ≤ 6 → sm (fun o => ind (bT (tub ns o)) 0) n + sm (fun o => ind (bT (tub ns o)) 1) n + sm (fun o => ind (bT (tub ns o)) 2) n + sm (fun o => ind (bT (tub ns o)) 3) n + sm (fun o => ind (bT (tub ns o)) 4) n + sm (fun o => ind (bT (tub ns o)) 5) n = n := by
    intro n
    induction n with
    | zero => intro _; rfl
    | succ n ih =>
      intro hn
      have := ih (by omega)
      have := ind_all (bT_in h24 hv n (by omega))
      rw [sm, sm, sm, sm, sm, sm]; omega
  exact h 6 (Nat.le_refl _)
theorem botA_occ {ns : List Int} (h24 : ns.length = 24) (hv : vR ns = true) (c : Nat) (hc : c < 6) : (botA ns).getD c 0 = occ ns c := by
  unfold botA; rw [if_pos hv]; exact bot_occ h24 hv c hc 6 (Nat.le_refl _)
/-- The first six numbers of bottoms, summed up. -/
def sumB (ns : List Int) (k : Nat) : Int := sm (fun c => (botA ns).getD c 0) k
theorem sumB_next (ns : List Int) (k : Nat) : sumB ns (k + 1) = sumB ns k + (botA ns).getD k 0 := rfl
theorem sumB_in {ns : List Int} (h24 : ns.length = 24) (hv : vR ns = true) : ∀ k : Nat, k ≤ 6 → 0 ≤ sumB ns k ∧ sumB ns k ≤ k * 6
  | 0, _ => ⟨Int.le_refl _, Int.le_refl _⟩
  | k + 1, h => by
    have ih := sumB_in h24 hv k (by omega)
    have := occ_in ns k
    rw [sumB_next, botA_occ h24 hv k (by omega)]; omega
theorem sumB_six {ns : List Int} (h24 : ns.length = 24) (hv : vR ns = true) : sumB ns 6 = 6 := by
  have h := occ_sum h24 hv
  have e := fun c hc => botA_occ h24 hv c hc
  rw [sumB_next, sumB_next, sumB_next, sumB_next, sumB_next, sumB_next, e 0 (by omega), e 1 (by omega), e 2 (by omega), e 3 (by omega), e 4 (by omega), e 5 (by omega)]
  show 0 + occ ns 0 + occ ns 1 + occ ns 2 + occ ns 3 + occ ns 4 + occ ns 5 = 6
  omega
theorem edge_def {ns : List Int} (hv : vR ns = true) : edgeA ns = runsA ns - 6 + (botA ns).getD 0 0 := by
  unfold edgeA edgeN runsA botA; rw [if_pos hv, if_pos hv, if_pos hv]
theorem edge_le {ns : List Int} (h24 : ns.length = 24) (hv : vR ns = true) : edgeA ns ≤ bndA ns := by
  have := (bnd_eq h24 hv).1; omega

/-! the spare runs -/
/-- A tube has at least as many runs as colors. -/
def colB (t : List Int) : Bool := decide (min (cn 1 t) 1 + min (cn 2 t) 1 + min (cn 3 t) 1 + min (cn 4 t) 1 + min (cn 5 t) 1 ≤ rT t)
theorem colB_all : allT.all colB = true := by decide +kernel
theorem col_le {t : List Int} (h4 : t.length = 4) (hv : vT t = true) : min (cn 1 t) 1 + min (cn 2 t) 1 + min (cn 3 t) 1 + min (cn 4 t) 1 + min (cn 5 t) 1 ≤ rT t :=
  of_decide_eq_true (forT colB colB_all h4 hv)
/-- Whether a color is there: none or one. -/
def hasC (d : Nat) (t : List Int) : Nat := min (cn d t) 1
theorem hasC_sum (a b c d e f : Nat) : min (((a + b + c + d + e + f : Nat) : Int)) 1 ≤ ((min a 1 + min b 1 + min c 1 + min d 1 + min e 1 + min f 1 : Nat) : Int) := by
  rcases Nat.eq_zero_or_pos a with rfl | ha
  · rcases Nat.eq_zero_or_pos b with rfl | hb
    · rcases Nat.eq_zero_or_pos c with rfl | hc
      · rcases Nat.eq_zero_or_pos d with rfl | hd
        · rcases Nat.eq_zero_or_pos e with rfl | he
          · simp only [Nat.zero_add]; omega
          · have : min e 1 = 1 := by omega
            have h2 : min (((0 + 0 + 0 + 0 + e + f : Nat) : Int)) 1 ≤ 1 := by omega
            rw [this]; omega
        · have : min d 1 = 1 := by omega
          have h2 : min (((0 + 0 + 0 + d + e + f : Nat) : Int)) 1 ≤ 1 := Int.min_le_right _ _
          rw [this]
          generalize min (((0 + 0 + 0 + d + e + f : Nat) : Int)) 1 = x at *
          generalize min e 1 = y1 at *; generalize min f 1 = y2 at *; generalize min 0 1 = y3 at *; omega
      · have : min c 1 = 1 := by omega
        have h2 : min (((0 + 0 + c + d + e + f : Nat) : Int)) 1 ≤ 1 := Int.min_le_right _ _
        rw [this]
        generalize min (((0 + 0 + c + d + e + f : Nat) : Int)) 1 = x at *
        generalize min d 1 = y0 at *; generalize min e 1 = y1 at *; generalize min f 1 = y2 at *; generalize min 0 1 = y3 at *; omega
    · have : min b 1 = 1 := by omega
      have h2 : min (((0 + b + c + d + e + f : Nat) : Int)) 1 ≤ 1 := Int.min_le_right _ _
      rw [this]
      generalize min (((0 + b + c + d + e + f : Nat) : Int)) 1 = x at *
      generalize min c 1 = y4 at *; generalize min d 1 = y0 at *; generalize min e 1 = y1 at *; generalize min f 1 = y2 at *; generalize min 0 1 = y3 at *; omega
  · have : min a 1 = 1 := by omega
    have h2 : min (((a + b + c + d + e + f : Nat) : Int)) 1 ≤ 1 := Int.min_le_right _ _
    rw [this]
    generalize min (((a + b + c + d + e + f : Nat) : Int)) 1 = x at *
    generalize min b 1 = y5 at *; generalize min c 1 = y4 at *; generalize min d 1 = y0 at *; generalize min e 1 = y1 at *; generalize min f 1 = y2 at *; omega
theorem cnt_has {ns : List Int} (h24 : ns.length = 24) (hv : vR ns = true) (d : Nat) (hd : d < 6) : min ((cntUp ns 24).getD d 0) 1 ≤ ((hasC d (tub ns 0) + hasC d (tub ns 1) + hasC d (tub ns 2) + hasC d (tub ns 3) + hasC d (tub ns 4) + hasC d (tub ns 5) : Nat) : Int) := by
  have ec := cntUp_cn ns (vR_all h24 hv) 24 (by omega) d hd
  rw [List.take_of_length_le (by omega)] at ec
  rw [ec, cn_rack d h24]
  exact hasC_sum _ _ _ _ _ _
theorem spare_zero {ns : List Int} (h24 : ns.length = 24) (hv : vR ns = true) : 0 ≤ spareA ns := by
  have L := fun o (ho : o < 6) => (show hasC 1 (tub ns o) + hasC 2 (tub ns o) + hasC 3 (tub ns o) + hasC 4 (tub ns o) + hasC 5 (tub ns o) ≤ rT (tub ns o) from col_le (tub_len ns o h24 ho) (vR_tub hv o ho))
  have l0 := L 0 (by omega); have l1 := L 1 (by omega); have l2 := L 2 (by omega); have l3 := L 3 (by omega); have l4 := L 4 (by omega); have l5 := L 5 (by omega)
  have hr := runs_sm ns 6
  have c1 := cnt_has h24 hv 1 (by omega); have c2 := cnt_has h24 hv 2 (by omega); have c3 := cnt_has h24 hv 3 (by omega); have c4 := cnt_has h24 hv 4 (by omega); have c5 := cnt_has h24 hv 5 (by omega)
  unfold spareA
  rw [if_pos hv, spareUp, spareUp, spareUp, spareUp, spareUp, spareUp]
  simp only [sm, Nat.zero_add] at hr ⊢
  generalize min ((cntUp ns 24).getD 1 0) 1 = a1 at *
  generalize min ((cntUp ns 24).getD 2 0) 1 = a2 at *
  generalize min ((cntUp ns 24).getD 3 0) 1 = a3 at *
  generalize min ((cntUp ns 24).getD 4 0) 1 = a4 at *
  generalize min ((cntUp ns 24).getD 5 0) 1 = a5 at *
  omega
theorem spare_same {a b : List Int} (va : vR a = true) (vb : vR b = true) (h : countA a = countA b) : spareA a - runsA a = spareA b - runsA b := by
  unfold countA at h
  rw [if_pos va, if_pos vb] at h
  unfold spareA runsA
  rw [if_pos va, if_pos vb, if_pos va, if_pos vb]
  rw [spareUp, spareUp, spareUp, spareUp, spareUp, spareUp, spareUp, spareUp, spareUp, spareUp, spareUp, spareUp, h]
  omega
theorem spare_pour {ns : List Int} {i j : Int} (h24 : ns.length = 24) (h : pourOk ns i j = true) : spareA (pourR ns i j) - spareA ns = runsA (pourR ns i j) - runsA ns := by
  have F := pour_facts h24 h
  have hv : vR ns = true := by
    have h2 : twoOk ns i j = true := by unfold pourOk at h; exact (Bool.and_eq_true_iff.1 h).1
    obtain ⟨hv, _⟩ := twoOk_of h2
    exact hv
  have := spare_same F.valid hv F.same
  omega

end Go.Proofs.Ytmhkjakgdfadbaa.base
end

section
namespace Go.Proofs.Ytmhkjakgdfadbaa.base
set_option linter.unusedVariables false
set_option linter.unusedSimpArgs false

/-! the bound is 0 exactly if the rack is sorted -/
def edB (t : List Int) : Bool := decide (0 ≤ (rT t : Int) - 1 + ind (bT t) 0) && (decide ((rT t : Int) - 1 + ind (bT t) 0 = 0) == decide (rT t ≤ 1)) && (decide (bT t = 0) == decide (lay t = 0)) && (!decide (rT t = 1) || decide (topC t = bT t))
theorem edB_all : allT.all edB = true := by decide +kernel
structure EdFacts (t : List Int) : Prop where
  pos : 0 ≤ (rT t : Int) - 1 + ind (bT t) 0
  zero : (rT t : Int) - 1 + ind (bT t) 0 = 0 ↔ rT t ≤ 1
  bot : bT t = 0 ↔ lay t = 0
  top : rT t = 1 → topC t = bT t
theorem edFacts {t : List Int} (h4 : t.length = 4) (hv : vT t = true) : EdFacts t := by
  have h := forT edB edB_all h4 hv
  unfold edB at h
  simp only [Bool.and_eq_true] at h
  obtain ⟨⟨⟨h1, h2⟩, h3⟩, h4⟩ := h
  refine ⟨of_decide_eq_true h1, decide_eq_decide.1 (eq_of_beq h2), decide_eq_decide.1 (eq_of_beq h3), fun e => ?_⟩
  rw [decide_eq_true e, Bool.not_true, Bool.false_or] at h4
  exact of_decide_eq_true h4
theorem sm_add (f g : Nat → Int) : ∀ n, sm (fun o => f o + g o) n = sm f n + sm g n
  | 0 => rfl
  | n + 1 => by rw [sm, sm, sm, sm_add f g n]; omega
theorem sm_pos {f : Nat → Int} : ∀ n, (∀ o, o < n → 0 ≤ f o) → 0 ≤ sm f n
  | 0, _ => Int.le_refl _
  | n + 1, h => by have := sm_pos n (fun o ho => h o (by omega)); have := h n (by omega); rw [sm]; omega
theorem sm_le {f : Nat → Int} : ∀ n, (∀ o, o < n → 0 ≤ f o) → ∀ o, o < n → f o ≤ sm f n
  | 0, _, o, ho => by omega
  | n + 1, h, o, ho => by
    have p := sm_pos n (fun o ho => h o (by omega))
    have q := h n (by omega)
    rw [sm]
    by_cases e : o = n
    · subst e; omega
    · have := sm_le n (fun o ho => h o (by omega)) o (by omega); omega
theorem sm_le2 {f : Nat → Int} : ∀ n, (∀ o, o < n → 0 ≤ f o) → ∀ o p, o < p → p < n → f o + f p ≤ sm f n
  | 0, _, o, p, _, hp => by omega
  | n + 1, h, o, p, ho, hp => by
    have q := h n (by omega)
    rw [sm]
    by_cases e : p = n
    · subst e; have := sm_le p (fun o ho => h o (by omega)) o ho; omega
    · have := sm_le2 n (fun o ho => h o (by omega)) o p ho (by omega); omega
theorem sm_zero {f : Nat → Int} : ∀ n, (∀ o, o < n → f o = 0) → sm f n = 0
  | 0, _ => rfl
  | n + 1, h => by rw [sm, sm_zero n (fun o ho => h o (by omega)), h n (by omega)]; rfl
/-- No two alike: at most one. -/
theorem sm_one_le {f : Nat → Int} : ∀ n, (∀ o, o < n → f o = 0 ∨ f o = 1) → (∀ o p, o < p → p < n → f o = 1 → f p = 1 → False) → sm f n ≤ 1
  | 0, _, _ => by rw [sm]; omega
  | n + 1, h, k => by
    rw [sm]
    rcases h n (by omega) with e | e
    · have := sm_one_le n (fun o ho => h o (by omega)) (fun o p ho hp => k o p ho (by omega)); omega
    · have : sm f n = 0 := sm_zero n (fun o ho => by
        rcases h o (by omega) with q | q
        · exact q
        · exact (k o n ho (by omega) q e).elim)
      omega
theorem ind_one (x c : Int) : ind x c = 0 ∨ ind x c = 1 := by unfold ind; split <;> simp
theorem ind_yes {x c : Int} : ind x c = 1 ↔ x = c := by unfold ind; split <;> simp_all
theorem mem_cols {ns : List Int} (c : Int) : ∀ p, c ∈ cols ns p ↔ ∃ o, o < p ∧ lay (tub ns o) ≠ 0 ∧ topC (tub ns o) = c
  | 0 => by
    constructor
    · intro h; cases h
    · rintro ⟨o, ho, _⟩; omega
  | p + 1 => by
    by_cases h : lay (tub ns p) = 0
    · rw [cols_zero h, mem_cols c p]
      constructor
      · rintro ⟨o, ho, h1, h2⟩; exact ⟨o, by omega, h1, h2⟩
      · rintro ⟨o, ho, h1, h2⟩
        by_cases e : o = p
        · subst e; exact absurd h h1
        · exact ⟨o, by omega, h1, h2⟩
    · rw [cols_new h, List.mem_append, mem_cols c p, List.mem_singleton]
      constructor
      · rintro (⟨o, ho, h1, h2⟩ | e)
        · exact ⟨o, by omega, h1, h2⟩
        · exact ⟨p, by omega, h, e.symm⟩
      · rintro ⟨o, ho, h1, h2⟩
        by_cases e : o = p
        · subst e; exact .inr h2.symm
        · exact .inl ⟨o, by omega, h1, h2⟩
theorem edge_sm {ns : List Int} (h24 : ns.length = 24) (hv : vR ns = true) : edgeA ns = sm (fun o => ((rT (tub ns o) : Int) - 1) + ind (bT (tub ns o)) 0) 6 := by
  obtain ⟨_, h2, h3⟩ := bnd_eq h24 hv
  rw [sm_add (fun o => (rT (tub ns o) : Int) - 1) (fun o => ind (bT (tub ns o)) 0) 6, h2, h3]
  have e : sm (fun o => (rT (tub ns o) : Int) - 1) 6 = sm (fun o => (rT (tub ns o) : Int)) 6 - 6 := by
    simp only [sm]; omega
  rw [e]; rfl
theorem bnd_sorted {ns : List Int} (h24 : ns.length = 24) (hv : vR ns = true) : bndA ns = 0 ↔ sortedA ns = true := by
  have EF := fun o (ho : o < 6) => edFacts (tub_len ns o h24 ho) (vR_tub hv o ho)
  have SF := fun o (ho : o < 6) => sortFacts (tub_len ns o h24 ho) (vR_tub hv o ho)
  have b1 := (bnd_eq h24 hv).1
  have be := edge_sm h24 hv
  have ep : 0 ≤ edgeA ns := by rw [be]; exact sm_pos 6 (fun o ho => (EF o ho).pos)
  have rd : ∀ o, rT (tub ns o) = runsN (tub ns o) (lay (tub ns o)) := fun o => rfl
  constructor
  · intro h0
    have e0 : edgeA ns = 0 := by omega
    have oc : ∀ c : Int, 1 ≤ c → c ≤ 5 → occ ns c ≤ 1 := by
      intro c h1 h5
      have : c = 1 ∨ c = 2 ∨ c = 3 ∨ c = 4 ∨ c = 5 := by omega
      rcases this with rfl | rfl | rfl | rfl | rfl <;> omega
    have r1 : ∀ o, o < 6 → rT (tub ns o) ≤ 1 := fun o ho => by
      have h1 := sm_le 6 (fun o ho => (EF o ho).pos) o ho
      rw [← be, e0] at h1
      have := (EF o ho).pos
      exact (EF o ho).zero.1 (by omega)
    refine sorted_yes hv (fun p hp => ?_)
    by_cases hl : lay (tub ns p) = 0
    · exact bad_zero (SF p hp) hl
    · have hr := r1 p hp
      have hz := (SF p hp).zero
      have r : rT (tub ns p) = 1 := by
        rcases Nat.lt_or_ge (rT (tub ns p)) 1 with q | q
        · exact absurd (hz.1 (by rw [← rd]; omega)) hl
        · omega
      rw [bad_one (by rw [← rd]; exact r)]
      refine decide_eq_false (fun hm => ?_)
      obtain ⟨o, ho, h1, h2⟩ := (mem_cols _ p).1 hm
      have hro := r1 o (by omega)
      have ro : rT (tub ns o) = 1 := by
        rcases Nat.lt_or_ge (rT (tub ns o)) 1 with q | q
        · exact absurd ((SF o (by omega)).zero.1 (by rw [← rd]; omega)) h1
        · omega
      have t1 := (EF p hp).top r
      have t2 := (EF o (by omega)).top ro
      have bp := bT_in h24 hv p hp
      have bz : bT (tub ns p) ≠ 0 := fun e => hl ((EF p hp).bot.1 e)
      have hc := oc (bT (tub ns p)) (by omega) (by omega)
      have h3 := sm_le2 (f := fun o => ind (bT (tub ns o)) (bT (tub ns p))) 6 (fun o _ => (ind_in _ _).1) o p ho hp
      have i1 : ind (bT (tub ns o)) (bT (tub ns p)) = 1 := ind_yes.2 (by rw [← t2, h2, t1])
      have i2 : ind (bT (tub ns p)) (bT (tub ns p)) = 1 := ind_yes.2 rfl
      unfold occ at hc
      simp only [i1, i2] at h3
      omega
  · intro hs
    have nb : ∀ p, p < 6 → badT (cols ns p) (tub ns p) = false := fun p hp => by
      cases h : badT (cols ns p) (tub ns p) with
      | false => rfl
      | true => rw [sorted_no p hp h] at hs; cases hs
    have r1 : ∀ o, o < 6 → rT (tub ns o) ≤ 1 := fun o ho => by
      rcases Nat.lt_or_ge 1 (rT (tub ns o)) with q | q
      · have := nb o ho; rw [bad_many (by rw [← rd]; exact q)] at this; cases this
      · exact q
    have e0 : edgeA ns = 0 := by rw [be]; exact sm_zero 6 (fun o ho => (EF o ho).zero.2 (r1 o ho))
    have oc : ∀ c : Int, c ≠ 0 → occ ns c ≤ 1 := fun c hc => by
      refine sm_one_le 6 (fun o _ => ind_one _ _) (fun o p ho hp e1 e2 => ?_)
      have b1 := ind_yes.1 e1
      have b2 := ind_yes.1 e2
      have lo : lay (tub ns o) ≠ 0 := fun e => hc (b1.symm.trans ((EF o (by omega)).bot.2 e))
      have lp : lay (tub ns p) ≠ 0 := fun e => hc (b2.symm.trans ((EF p hp).bot.2 e))
      have ro : rT (tub ns o) = 1 := by
        have := r1 o (by omega)
        rcases Nat.lt_or_ge (rT (tub ns o)) 1 with q | q
        · exact absurd ((SF o (by omega)).zero.1 (by rw [← rd]; omega)) lo
        · omega
      have rp : rT (tub ns p) = 1 := by
        have := r1 p hp
        rcases Nat.lt_or_ge (rT (tub ns p)) 1 with q | q
        · exact absurd ((SF p hp).zero.1 (by rw [← rd]; omega)) lp
        · omega
      have := nb p hp
      rw [bad_one (by rw [← rd]; exact rp), decide_eq_false_iff_not] at this
      exact this ((mem_cols _ p).2 ⟨o, ho, lo, by rw [(EF o (by omega)).top ro, (EF p hp).top rp, b1, b2]⟩)
    have o1 := oc 1 (by omega)
    have o2 := oc 2 (by omega)
    have o3 := oc 3 (by omega)
    have o4 := oc 4 (by omega)
    have o5 := oc 5 (by omega)
    omega
end Go.Proofs.Ytmhkjakgdfadbaa.base
end
