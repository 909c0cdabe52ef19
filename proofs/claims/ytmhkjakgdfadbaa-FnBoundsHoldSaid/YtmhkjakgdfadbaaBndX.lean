/-
  How a pour changes runs, boundaries and the bound: plain mathematics.
-/
import Derived.Test.YtmhkjakgdfadbaaGoodM
namespace Go.Proofs.Ytmhkjakgdfadbaa.base
set_option linter.unusedVariables false
set_option linter.unusedSimpArgs false

def rT (t : List Int) : Nat := runsN t (lay t)
def bT (t : List Int) : Int := t.getD 0 0
def fromX (s : List Int) : Bool := (List.range 5).all fun k => !decide (0 < k ∧ k ≤ topN s) || decide ((k < topN s ∧ rT (fromK s k) = rT s ∧ bT (fromK s k) = bT s) ∨
  (k = topN s ∧ topN s < lay s ∧ rT (fromK s k) + 1 = rT s ∧ bT (fromK s k) = bT s) ∨ (k = topN s ∧ topN s = lay s ∧ rT s = 1 ∧ rT (fromK s k) = 0 ∧ bT (fromK s k) = 0 ∧ bT s = topC s))
def toX (t : List Int) : Bool := (List.range 5).all fun k => [1, 2, 3, 4, 5].all fun c => !decide (0 < k ∧ k + lay t ≤ 4 ∧ (lay t = 0 ∨ topC t = c)) ||
  decide ((lay t = 0 ∧ rT (toK t c k) = 1 ∧ bT (toK t c k) = c ∧ rT t = 0 ∧ bT t = 0) ∨ (lay t ≠ 0 ∧ rT (toK t c k) = rT t ∧ bT (toK t c k) = bT t))
theorem fromX_all : allT.all fromX = true := by decide +kernel
theorem toX_all : allT.all toX = true := by decide +kernel

def sm (f : Nat → Int) : Nat → Int
  | 0 => 0
  | k + 1 => sm f k + f k
theorem sm_same {f g : Nat → Int} : ∀ n, (∀ o, o < n → g o = f o) → sm g n = sm f n
  | 0, _ => rfl
  | n + 1, h => by rw [sm, sm, sm_same n (fun o ho => h o (by omega)), h n (by omega)]
theorem sm_one {f g : Nat → Int} {p : Nat} : ∀ n, p < n → (∀ o, o < n → o ≠ p → g o = f o) → sm g n = sm f n + (g p - f p)
  | 0, hp, _ => by omega
  | n + 1, hp, h => by
    rw [sm, sm]
    by_cases e : p = n
    · subst e
      rw [sm_same p (fun o ho => h o (by omega) (by omega))]; omega
    · rw [sm_one n (by omega) (fun o ho hne => h o (by omega) hne), h n (by omega) (fun q => e q.symm)]; omega
theorem sm_two {f g : Nat → Int} {p q : Nat} (n : Nat) (hp : p < n) (hq : q < n) (hne : p ≠ q) (h : ∀ o, o < n → o ≠ p → o ≠ q → g o = f o) : sm g n = sm f n + (g p - f p) + (g q - f q) := by
  have h1 : sm (fun o => if o = p then g p else f o) n = sm f n + (g p - f p) := by
    have := sm_one (f := f) (g := fun o => if o = p then g p else f o) n hp (fun o _ ho => if_neg ho)
    rw [if_pos rfl] at this; exact this
  have h2 := sm_one (f := fun o => if o = p then g p else f o) (g := g) n hq (fun o ho hoq => by
    by_cases e : o = p
    · subst e; rw [if_pos rfl]
    · rw [if_neg e]; exact h o ho e hoq)
  rw [h2, h1, if_neg (fun e => hne e.symm)]
def ind (x c : Int) : Int := if x = c then 1 else 0
theorem ind_in (x c : Int) : 0 ≤ ind x c ∧ ind x c ≤ 1 := by unfold ind; split <;> omega
/-- In how many tubes a color is at the bottom. -/
def occ (ns : List Int) (c : Int) : Int := sm (fun o => ind (bT (tub ns o)) c) 6
theorem bot_occ {ns : List Int} (h24 : ns.length = 24) (hv : vR ns = true) (c : Nat) (hc : c < 6) : ∀ n, n ≤ 6 → (botUp ns n).getD c 0 = sm (fun o => ind (bT (tub ns o)) (c : Int)) n
  | 0, _ => by
    rw [bot0, sm]
    match c, hc with
    | 0, _ => rfl
    | 1, _ => rfl
    | 2, _ => rfl
    | 3, _ => rfl
    | 4, _ => rfl
    | 5, _ => rfl
  | n + 1, hn => by
    have ih := bot_occ h24 hv c hc n (by omega)
    obtain ⟨d, hd6, hd, hs⟩ := bot_step ns h24 hv n (by omega)
    have hl := (bot_all ns n).1
    rw [hs, sm, ← ih]
    unfold bT ind
    rw [hd, List.getD_eq_getElem?_getD, List.getElem?_set]
    by_cases e : d = c
    · subst e
      rw [if_pos rfl, if_pos (by omega), if_pos rfl]; rfl
    · rw [if_neg e, if_neg (fun q => e (by omega)), ← List.getD_eq_getElem?_getD]; omega
theorem runs_sm (ns : List Int) : ∀ n, ((runUp ns n : Nat) : Int) = sm (fun o => (rT (tub ns o) : Int)) n
  | 0 => rfl
  | n + 1 => by
    rw [runUp, sm, ← runs_sm ns n]
    unfold nR rT; omega
theorem bnd_eq {ns : List Int} (h24 : ns.length = 24) (hv : vR ns = true) :
    bndA ns = edgeA ns + max (occ ns 1 - 1) 0 + max (occ ns 2 - 1) 0 + max (occ ns 3 - 1) 0 + max (occ ns 4 - 1) 0 + max (occ ns 5 - 1) 0 ∧ edgeA ns = runsA ns - 6 + occ ns 0 ∧ runsA ns = sm (fun o => (rT (tub ns o) : Int)) 6 := by
  have h0 := bot_occ h24 hv 0 (by omega) 6 (Nat.le_refl _)
  have h1 := bot_occ h24 hv 1 (by omega) 6 (Nat.le_refl _)
  have h2 := bot_occ h24 hv 2 (by omega) 6 (Nat.le_refl _)
  have h3 := bot_occ h24 hv 3 (by omega) 6 (Nat.le_refl _)
  have h4 := bot_occ h24 hv 4 (by omega) 6 (Nat.le_refl _)
  have h5 := bot_occ h24 hv 5 (by omega) 6 (Nat.le_refl _)
  have hr := runs_sm ns 6
  unfold bndA edgeA runsA bndN
  rw [if_pos hv, if_pos hv, if_pos hv]
  refine ⟨?_, ?_, hr⟩
  · show bndUp ns 0 + _ + _ + _ + _ + _ = _
    rw [bndUp]
    unfold occ
    rw [← h1.symm, h2, h3, h4, h5]
    rfl
  · unfold edgeN occ; rw [h0]; rfl

structure PourBound (ns N : List Int) : Prop where
  runs : runsA N ≤ runsA ns
  runs1 : runsA ns ≤ runsA N + 1
  edges : edgeA N ≤ edgeA ns
  bound : bndA ns ≤ bndA N + 1
theorem occ_in (ns : List Int) (c : Int) : 0 ≤ occ ns c ∧ occ ns c ≤ 6 := by
  have h : ∀ n : Nat, 0 ≤ sm (fun o => ind (bT (tub ns o)) c) n ∧ sm (fun o => ind (bT (tub ns o)) c) n ≤ n := by
    intro n
    induction n with
    | zero => exact ⟨Int.le_refl _, Int.le_refl _⟩
    | succ n ih => have := ind_in (bT (tub ns n)) c; rw [sm]; omega
  exact h 6
set_option maxHeartbeats 3200000 in
theorem pour_bound {ns : List Int} {x y : Int} (h24 : ns.length = 24) (hok : pourOk ns x y = true) : PourBound ns (pourR ns x y) := by
  have hV := (pour_facts h24 hok).valid
  have hN24 := pourR_len h24 x y
  have h2 : twoOk ns x y = true := by unfold pourOk at hok; exact (Bool.and_eq_true_iff.1 hok).1
  obtain ⟨hv, p, q, rfl, rfl, hp, hq, hne⟩ := twoOk_of h2
  have hpos : 0 < canN (tub ns p) (tub ns q) := by unfold pourOk at hok; simpa using (Bool.and_eq_true_iff.1 hok).2
  have sp := tub_len ns p h24 hp
  have sq := tub_len ns q h24 hq
  have vp := vR_tub hv p hp
  have vq := vR_tub hv q hq
  have FS := tubeFacts sp vp
  obtain ⟨k1, k2, k3⟩ := canN_le sp sq vp vq
  have k3 := k3 hpos
  have kt : canN (tub ns p) (tub ns q) ≤ topN (tub ns p) := by unfold canN; split <;> omega
  have kc : lay (tub ns q) = 0 ∨ topC (tub ns q) = topC (tub ns p) := by
    unfold canN at hpos
    split at hpos
    · omega
    · rename_i h; by_cases e : lay (tub ns q) = 0
      · exact .inl e
      · exact .inr (by
          by_cases e2 : topC (tub ns q) = topC (tub ns p)
          · exact e2
          · exact absurd ⟨e, e2⟩ h)
  obtain ⟨f1, f2, f3⟩ := fromK_facts sp vp _ k1
  obtain ⟨t1, t2, t3⟩ := toK_facts sq vq (topC (tub ns p)) k3 _ k2
  have eR : pourR ns (p : Int) (q : Int) = two ns p q (fromK (tub ns p) (canN (tub ns p) (tub ns q))) (toK (tub ns q) (topC (tub ns p)) (canN (tub ns p) (tub ns q))) := by
    unfold pourR pourT; rw [if_pos hok]; rfl
  have tp := two_p h24 hp hq f3 t3 hne
  have tq := two_q (p := p) h24 hp hq f3 t3
  have to := two_o h24 hp hq f3 t3
  have b1 := bnd_eq h24 hv
  have b2 := bnd_eq hN24 hV
  rw [eR] at b2 ⊢
  have FX : (canN (tub ns p) (tub ns q) < topN (tub ns p) ∧ rT (fromK (tub ns p) (canN (tub ns p) (tub ns q))) = rT (tub ns p) ∧ bT (fromK (tub ns p) (canN (tub ns p) (tub ns q))) = bT (tub ns p)) ∨
      (canN (tub ns p) (tub ns q) = topN (tub ns p) ∧ topN (tub ns p) < lay (tub ns p) ∧ rT (fromK (tub ns p) (canN (tub ns p) (tub ns q))) + 1 = rT (tub ns p) ∧ bT (fromK (tub ns p) (canN (tub ns p) (tub ns q))) = bT (tub ns p)) ∨
      (canN (tub ns p) (tub ns q) = topN (tub ns p) ∧ topN (tub ns p) = lay (tub ns p) ∧ rT (tub ns p) = 1 ∧ rT (fromK (tub ns p) (canN (tub ns p) (tub ns q))) = 0 ∧ bT (fromK (tub ns p) (canN (tub ns p) (tub ns q))) = 0 ∧ bT (tub ns p) = topC (tub ns p)) := by
    have b := List.all_eq_true.1 (forT fromX fromX_all sp vp) (canN (tub ns p) (tub ns q)) (by simp; omega)
    have e : (0 < canN (tub ns p) (tub ns q) ∧ canN (tub ns p) (tub ns q) ≤ topN (tub ns p)) := ⟨hpos, kt⟩
    rw [decide_eq_true e, Bool.not_true, Bool.false_or] at b
    exact of_decide_eq_true b
  have TX : (lay (tub ns q) = 0 ∧ rT (toK (tub ns q) (topC (tub ns p)) (canN (tub ns p) (tub ns q))) = 1 ∧ bT (toK (tub ns q) (topC (tub ns p)) (canN (tub ns p) (tub ns q))) = topC (tub ns p) ∧ rT (tub ns q) = 0 ∧ bT (tub ns q) = 0) ∨
      (lay (tub ns q) ≠ 0 ∧ rT (toK (tub ns q) (topC (tub ns p)) (canN (tub ns p) (tub ns q))) = rT (tub ns q) ∧ bT (toK (tub ns q) (topC (tub ns p)) (canN (tub ns p) (tub ns q))) = bT (tub ns q)) := by
    have b := List.all_eq_true.1 (forT toX toX_all sq vq) (canN (tub ns p) (tub ns q)) (by simp; omega)
    have b1 := List.all_eq_true.1 b (topC (tub ns p)) (by
      have : topC (tub ns p) = 1 ∨ topC (tub ns p) = 2 ∨ topC (tub ns p) = 3 ∨ topC (tub ns p) = 4 ∨ topC (tub ns p) = 5 := by omega
      rcases this with e | e | e | e | e <;> rw [e] <;> decide)
    have e : (0 < canN (tub ns p) (tub ns q) ∧ canN (tub ns p) (tub ns q) + lay (tub ns q) ≤ 4 ∧ (lay (tub ns q) = 0 ∨ topC (tub ns q) = topC (tub ns p))) := ⟨hpos, k2, kc⟩
    rw [decide_eq_true e, Bool.not_true, Bool.false_or] at b1
    exact of_decide_eq_true b1
  have kq : lay (tub ns q) = 0 → canN (tub ns p) (tub ns q) = topN (tub ns p) := fun e => by
    have := FS.topN; have := FS.lay4
    unfold canN; rw [if_neg (fun h => h.1 e), e]; omega
  generalize hC : topC (tub ns p) = c at *
  generalize canN (tub ns p) (tub ns q) = m at *
  have RS : sm (fun o => (rT (tub (two ns p q (fromK (tub ns p) m) (toK (tub ns q) c m)) o) : Int)) 6 = sm (fun o => (rT (tub ns o) : Int)) 6 + ((rT (fromK (tub ns p) m) : Int) - rT (tub ns p)) + ((rT (toK (tub ns q) c m) : Int) - rT (tub ns q)) := by
    have := sm_two (f := fun o => (rT (tub ns o) : Int)) (g := fun o => (rT (tub (two ns p q (fromK (tub ns p) m) (toK (tub ns q) c m)) o) : Int)) 6 hp hq hne (fun o ho h1 h2 => by rw [to o ho h1 h2])
    rw [tp, tq] at this; exact this
  have OS : ∀ d : Int, occ (two ns p q (fromK (tub ns p) m) (toK (tub ns q) c m)) d = occ ns d + (ind (bT (fromK (tub ns p) m)) d - ind (bT (tub ns p)) d) + (ind (bT (toK (tub ns q) c m)) d - ind (bT (tub ns q)) d) := fun d => by
    have := sm_two (f := fun o => ind (bT (tub ns o)) d) (g := fun o => ind (bT (tub (two ns p q (fromK (tub ns p) m) (toK (tub ns q) c m)) o)) d) 6 hp hq hne (fun o ho h1 h2 => by rw [to o ho h1 h2])
    rw [tp, tq] at this; exact this
  have o0 := OS 0
  have o1 := OS 1
  have o2 := OS 2
  have o3 := OS 3
  have o4 := OS 4
  have o5 := OS 5
  obtain ⟨b11, b12, b13⟩ := b1
  obtain ⟨b21, b22, b23⟩ := b2
  rw [RS] at b23
  have hc : c = 1 ∨ c = 2 ∨ c = 3 ∨ c = 4 ∨ c = 5 := by omega
  clear OS RS to tp tq hV hN24 eR hok h2 f1 f2 f3 t1 t2 t3 FS vp vq sp sq
  rcases FX with ⟨g1, g2, g3⟩ | ⟨g1, g2, g3, g4⟩ | ⟨g1, g2, g3, g4, g5, g6⟩
  · rcases TX with ⟨u1, u2, u3, u4, u5⟩ | ⟨u1, u2, u3⟩
    · have := kq u1; omega
    · rw [g3, u3] at o0 o1 o2 o3 o4 o5
      rw [g2, u2] at b23
      exact ⟨by omega, by omega, by omega, by omega⟩
  · rcases TX with ⟨u1, u2, u3, u4, u5⟩ | ⟨u1, u2, u3⟩
    · rw [g4, u3, u5] at o0 o1 o2 o3 o4 o5
      rw [u2, u4] at b23
      rcases hc with e | e | e | e | e <;> subst e <;> simp [ind] at o0 o1 o2 o3 o4 o5 <;> exact ⟨by omega, by omega, by omega, by omega⟩
    · rw [g4, u3] at o0 o1 o2 o3 o4 o5
      rw [u2] at b23
      exact ⟨by omega, by omega, by omega, by omega⟩
  · rcases TX with ⟨u1, u2, u3, u4, u5⟩ | ⟨u1, u2, u3⟩
    · rw [g5, g6, u3, u5] at o0 o1 o2 o3 o4 o5
      rw [u2, u4, g3, g4] at b23
      exact ⟨by omega, by omega, by omega, by omega⟩
    · rw [g5, g6, u3] at o0 o1 o2 o3 o4 o5
      rw [u2, g3, g4] at b23
      have i0 := occ_in ns 1
      rcases hc with e | e | e | e | e <;> subst e <;> simp [ind] at o0 o1 o2 o3 o4 o5 <;> exact ⟨by omega, by omega, by omega, by omega⟩
end Go.Proofs.Ytmhkjakgdfadbaa.base
