/-
  What the law of pours says, in plain mathematics: colors are kept, pours are listed, what can be poured back.
-/
import Derived.Test.YtalngdccjoafhabPourMZ
import Derived.Test.YtalngdccjoafhabSortZ
import Derived.Test.YtalngdccjoafhabRackToZ
namespace Go.Proofs.Ytalngdccjoafhab.base
open Go.ChangeShapes Go.WideShapes Go.ChangeAt Go.RowKit
set_option linter.unusedVariables false
set_option linter.unusedSimpArgs false

/-! a pair stands in a flat row of pairs -/
def inL (fs : List Int) (x y : Int) : Prop := ∃ k : Nat, k * 2 + 1 < fs.length ∧ fs.getD (k * 2) 0 = x ∧ fs.getD (k * 2 + 1) 0 = y
theorem inL_nil (x y : Int) : ¬ inL [] x y := fun ⟨k, h, _⟩ => by simp at h
theorem inL_app {fs : List Int} {n : Nat} (hn : fs.length = n * 2) (a b x y : Int) : inL (fs ++ [a, b]) x y ↔ inL fs x y ∨ (x = a ∧ y = b) := by
  constructor
  · rintro ⟨k, hk, h1, h2⟩
    rw [List.length_append] at hk
    by_cases hkn : k < n
    · left
      refine ⟨k, by omega, ?_, ?_⟩
      · rw [← h1, List.getD_eq_getElem?_getD, List.getD_eq_getElem?_getD, List.getElem?_append_left (by omega)]
      · rw [← h2, List.getD_eq_getElem?_getD, List.getD_eq_getElem?_getD, List.getElem?_append_left (by omega)]
    · right
      have hkn : k = n := by simp at hk; omega
      subst hkn
      rw [List.getD_eq_getElem?_getD, List.getElem?_append_right (by omega), hn, Nat.sub_self] at h1
      rw [List.getD_eq_getElem?_getD, List.getElem?_append_right (by omega), hn, Nat.add_sub_cancel_left] at h2
      exact ⟨h1.symm, h2.symm⟩
  · rintro (⟨k, hk, h1, h2⟩ | ⟨rfl, rfl⟩)
    · refine ⟨k, by rw [List.length_append]; omega, ?_, ?_⟩
      · rw [← h1, List.getD_eq_getElem?_getD, List.getD_eq_getElem?_getD, List.getElem?_append_left (by omega)]
      · rw [← h2, List.getD_eq_getElem?_getD, List.getD_eq_getElem?_getD, List.getElem?_append_left (by omega)]
    · refine ⟨n, by rw [List.length_append, hn]; simp, ?_, ?_⟩
      · rw [List.getD_eq_getElem?_getD, List.getElem?_append_right (by omega), hn, Nat.sub_self]; rfl
      · rw [List.getD_eq_getElem?_getD, List.getElem?_append_right (by omega), hn, Nat.add_sub_cancel_left]; rfl
def condP (ns : List Int) (p q : Nat) : Prop := p ≠ q ∧ 0 < canN (tub ns p) (tub ns q)
theorem poursF_len (ns : List Int) : ∀ m, (poursF ns m).length = poursN ns m * 2
  | 0 => by rw [(pours0 ns).1, (pours0 ns).2]; rfl
  | m + 1 => by
    have ih := poursF_len ns m
    by_cases hc : m / 6 ≠ m % 6 ∧ 0 < canN (tub ns (m / 6)) (tub ns (m % 6))
    · have e : poursF ns (m + 1) = poursF ns m ++ [((m / 6 : Nat) : Int), ((m % 6 : Nat) : Int)] := by rw [poursF, if_pos hc]
      have en : poursN ns (m + 1) = poursN ns m + 1 := by unfold poursN; rw [e, List.length_append]; simp
      rw [e, en, List.length_append, ih]; simp; omega
    · have e : poursF ns (m + 1) = poursF ns m := by rw [poursF, if_neg hc]
      have en : poursN ns (m + 1) = poursN ns m := by unfold poursN; rw [e]
      rw [e, en]; exact ih
theorem in_poursF (ns : List Int) (x y : Int) : ∀ m, inL (poursF ns m) x y ↔ ∃ k, k < m ∧ condP ns (k / 6) (k % 6) ∧ x = ((k / 6 : Nat) : Int) ∧ y = ((k % 6 : Nat) : Int)
  | 0 => by rw [(pours0 ns).2]; exact ⟨fun h => absurd h (inL_nil _ _), fun ⟨k, h, _⟩ => by omega⟩
  | m + 1 => by
    have ih := in_poursF ns x y m
    by_cases hc : m / 6 ≠ m % 6 ∧ 0 < canN (tub ns (m / 6)) (tub ns (m % 6))
    · rw [poursF, if_pos hc, inL_app (poursF_len ns m), ih]
      constructor
      · rintro (⟨k, hk, h⟩ | ⟨h1, h2⟩)
        · exact ⟨k, by omega, h⟩
        · exact ⟨m, by omega, hc, h1, h2⟩
      · rintro ⟨k, hk, h, h1, h2⟩
        by_cases e : k = m
        · subst e; exact .inr ⟨h1, h2⟩
        · exact .inl ⟨k, by omega, h, h1, h2⟩
    · rw [poursF, if_neg hc, ih]
      constructor
      · rintro ⟨k, hk, h⟩; exact ⟨k, by omega, h⟩
      · rintro ⟨k, hk, h, h1, h2⟩
        by_cases e : k = m
        · subst e; exact absurd h hc
        · exact ⟨k, by omega, h, h1, h2⟩
/-- What can be poured is listed. -/
theorem can_listed {ns : List Int} {i j : Int} (h : twoOk ns i j = true) : canA ns i j = true ↔ inL (poursFA ns) i j := by
  obtain ⟨hv, p, q, rfl, rfl, hp, hq, hne⟩ := twoOk_of h
  unfold poursFA canA
  rw [if_pos hv, h, in_poursF]
  constructor
  · intro hc
    have hc' : 0 < canN (tub ns p) (tub ns q) := by simpa using hc
    refine ⟨p * 6 + q, by omega, ⟨by rw [show (p * 6 + q) / 6 = p by omega, show (p * 6 + q) % 6 = q by omega]; exact ⟨hne, hc'⟩, ?_⟩⟩
    rw [show (p * 6 + q) / 6 = p by omega, show (p * 6 + q) % 6 = q by omega]; exact ⟨rfl, rfl⟩
  · rintro ⟨k, hk, hc, h1, h2⟩
    have e1 : p = k / 6 := by omega
    have e2 : q = k % 6 := by omega
    have : 0 < canN (tub ns p) (tub ns q) := by rw [e1, e2]; exact hc.2
    simpa using this
theorem pour_k2 (ns : List Int) (k : Nat) (hk : k < poursN ns 36) : fstP ns k ≠ sndP ns k ∧ inL (poursF ns 36) (fstP ns k) (sndP ns k) := by
  obtain ⟨a1, a2, a3, a4, a5⟩ := pour_k ns k hk
  have hin : inL (poursF ns 36) (fstP ns k) (sndP ns k) := ⟨k, by rw [poursF_len]; omega, a4, a5⟩
  obtain ⟨m, hm, hc, h1, h2⟩ := (in_poursF ns _ _ 36).1 hin
  refine ⟨?_, hin⟩
  have e1 : fstP ns k = m / 6 := by omega
  have e2 : sndP ns k = m % 6 := by omega
  rw [e1, e2]; exact hc.1
theorem usefF_len (ns : List Int) : ∀ m, (usefF ns m).length = usefN ns m * 2
  | 0 => by rw [(usef0 ns).1, (usef0 ns).2]; rfl
  | m + 1 => by
    have ih := usefF_len ns m
    cases hc : idl ns (fstP ns m) (sndP ns m) with
    | true => obtain ⟨e, en⟩ := usef_idle hc; rw [e, en]; exact ih
    | false => obtain ⟨e, en⟩ := usef_new hc; rw [e, en, List.length_append, ih]; simp; omega
theorem in_usefF (ns : List Int) (x y : Int) : ∀ m, m ≤ poursN ns 36 → inL (usefF ns m) x y → inL (poursF ns 36) x y
  | 0, _, h => by rw [(usef0 ns).2] at h; exact absurd h (inL_nil _ _)
  | m + 1, hm, h => by
    cases hc : idl ns (fstP ns m) (sndP ns m) with
    | true => obtain ⟨e, _⟩ := usef_idle hc; rw [e] at h; exact in_usefF ns x y m (by omega) h
    | false =>
      obtain ⟨e, _⟩ := usef_new hc
      rw [e, inL_app (usefF_len ns m)] at h
      rcases h with h | ⟨rfl, rfl⟩
      · exact in_usefF ns x y m (by omega) h
      · exact (pour_k2 ns m (by omega)).2
/-- The useful pours are among all. -/
theorem useful_listed (ns : List Int) (x y : Int) (h : inL (usefFA ns) x y) : inL (poursFA ns) x y := by
  unfold usefFA at h
  unfold poursFA
  by_cases hv : vR ns = true
  · rw [if_pos hv] at h ⊢; exact in_usefF ns x y _ (Nat.le_refl _) h
  · rw [if_neg hv] at h; exact absurd h (inL_nil _ _)
/-! a sorted rack has no useful pours -/
theorem cols_in {ns : List Int} : ∀ p q, p < q → lay (tub ns p) ≠ 0 → topC (tub ns p) ∈ cols ns q
  | p, 0, h, _ => by omega
  | p, q + 1, h, hl => by
    by_cases e : p = q
    · subst e; rw [cols_new hl]; simp
    · have := cols_in p q (by omega) hl
      by_cases h0 : lay (tub ns q) = 0
      · rw [cols_zero h0]; exact this
      · rw [cols_new h0]; exact List.mem_append_left _ this
theorem sorted_facts {ns : List Int} (h24 : ns.length = 24) (h : sortedA ns = true) : vR ns = true ∧ (∀ p, p < 6 → lay (tub ns p) ≠ 0 → topN (tub ns p) = lay (tub ns p)) ∧ ∀ p q, p < 6 → q < 6 → p ≠ q → lay (tub ns p) ≠ 0 → lay (tub ns q) ≠ 0 → topC (tub ns p) ≠ topC (tub ns q) := by
  unfold sortedA at h
  rw [Bool.and_eq_true] at h
  obtain ⟨hv, ha⟩ := h
  have hb : ∀ p, p < 6 → badT (cols ns p) (tub ns p) = false := fun p hp => by
    have := List.all_eq_true.1 ha p (by simpa using hp)
    simpa using this
  have one : ∀ p, p < 6 → lay (tub ns p) ≠ 0 → runsN (tub ns p) (lay (tub ns p)) = 1 := fun p hp hl => by
    have F := sortFacts (tub_len ns p h24 hp) (vR_tub hv p hp)
    have h0 : runsN (tub ns p) (lay (tub ns p)) ≠ 0 := fun e => hl (F.zero.1 e)
    have h1 : ¬ 1 < runsN (tub ns p) (lay (tub ns p)) := fun e => by have := hb p hp; rw [bad_many e] at this; cases this
    omega
  have lt : ∀ p q, p < q → q < 6 → lay (tub ns p) ≠ 0 → lay (tub ns q) ≠ 0 → topC (tub ns p) ≠ topC (tub ns q) := fun p q hpq hq hp0 hq0 e => by
    have := hb q hq
    rw [bad_one (one q hq hq0), ← e] at this
    exact of_decide_eq_false this (cols_in p q hpq hp0)
  refine ⟨hv, fun p hp hl => ((sortFacts (tub_len ns p h24 hp) (vR_tub hv p hp)).one.1 (one p hp hl)).2, fun p q hp hq hne hp0 hq0 e => ?_⟩
  rcases Nat.lt_or_gt_of_ne hne with h1 | h1
  · exact lt p q h1 hq hp0 hq0 e
  · exact lt q p h1 hp hq0 hp0 e.symm
theorem sorted_none {ns : List Int} (h24 : ns.length = 24) (h : sortedA ns = true) : usefNA ns = 0 := by
  obtain ⟨hv, h1, h2⟩ := sorted_facts h24 h
  have idle : ∀ k, k < poursN ns 36 → idl ns (fstP ns k) (sndP ns k) = true := fun k hk => by
    obtain ⟨a1, a2, a3, _, _⟩ := pour_k ns k hk
    have hne := (pour_k2 ns k hk).1
    have hl := can_lay (tub_len ns _ h24 a1) (vR_tub hv _ a1) a3
    have ht := h1 _ a1 hl
    have h0 : lay (tub ns (sndP ns k)) = 0 := Decidable.byContradiction fun hq => by
      have := h2 _ _ a1 a2 hne hl hq
      unfold canN at a3
      rw [if_pos ⟨hq, fun e => this e.symm⟩] at a3
      omega
    unfold idl
    rw [decide_eq_true ht, decide_eq_true h0]; rfl
  have all : ∀ k, k ≤ poursN ns 36 → usefN ns k = 0 := by
    intro k
    induction k with
    | zero => intro _; exact (usef0 ns).1
    | succ k ih => intro hk; rw [(usef_idle (idle k (by omega))).2]; exact ih (by omega)
  unfold usefNA
  rw [if_pos hv]
  exact all _ (Nat.le_refl _)

/-! colors are kept -/
def cn (d : Nat) (t : List Int) : Nat := (t.filter fun x => decide (x.toNat = d)).length
def fromC (s : List Int) : Bool := (List.range 5).all fun k => !decide (k ≤ topN s) || (List.range 6).all fun d => cn d (fromK s k) + (if (topC s).toNat = d then k else 0) == cn d s + (if d = 0 then k else 0)
def toC (t : List Int) : Bool := (List.range 5).all fun k => !decide (k + lay t ≤ 4) || [1, 2, 3, 4, 5].all fun c => (List.range 6).all fun d => cn d (toK t c k) + (if d = 0 then k else 0) == cn d t + (if c.toNat = d then k else 0)
theorem fromC_all : allT.all fromC = true := by decide +kernel
theorem toC_all : allT.all toC = true := by decide +kernel
theorem cn_move {s t : List Int} (hs : s.length = 4) (ht : t.length = 4) (vs : vT s = true) (vt : vT t = true) (k : Nat) (h0 : 0 < k) (h1 : k ≤ topN s) (h2 : k + lay t ≤ 4) (d : Nat) (hd : d < 6) :
    cn d (fromK s k) + cn d (toK t (topC s) k) = cn d s + cn d t := by
  have FS := tubeFacts hs vs
  have c0 := FS.c0
  have c5 := FS.c5
  have hl := FS.lay4
  have hn := FS.topN
  have cz := FS.noneC
  have a := forT fromC fromC_all hs vs
  have a1 := List.all_eq_true.1 a k (by simp; omega)
  simp only [h1, decide_true, Bool.not_true, Bool.false_or] at a1
  have a2 := List.all_eq_true.1 a1 d (by simpa using hd)
  rw [beq_iff_eq] at a2
  have b := forT toC toC_all ht vt
  have b1 := List.all_eq_true.1 b k (by simp; omega)
  simp only [h2, decide_true, Bool.not_true, Bool.false_or] at b1
  have b2 := List.all_eq_true.1 b1 (topC s) (by
    have : topC s = 1 ∨ topC s = 2 ∨ topC s = 3 ∨ topC s = 4 ∨ topC s = 5 := by omega
    rcases this with h | h | h | h | h <;> rw [h] <;> decide)
  have b3 := List.all_eq_true.1 b2 d (by simpa using hd)
  rw [beq_iff_eq] at b3
  omega
theorem cn_app (d : Nat) (a b : List Int) : cn d (a ++ b) = cn d a + cn d b := by unfold cn; rw [List.filter_append, List.length_append]
theorem six_tubs {ns : List Int} (h : ns.length = 24) : ns = tub ns 0 ++ tub ns 1 ++ tub ns 2 ++ tub ns 3 ++ tub ns 4 ++ tub ns 5 := by
  refine rack_ext h (by simp only [List.length_append, tub_len ns _ h (by omega : 0 < 6), tub_len ns _ h (by omega : 1 < 6), tub_len ns _ h (by omega : 2 < 6), tub_len ns _ h (by omega : 3 < 6), tub_len ns _ h (by omega : 4 < 6), tub_len ns _ h (by omega : 5 < 6)]) (fun i hi => ?_)
  have l := fun i hi => tub_len ns i h hi
  obtain ⟨x0, x1, x2, x3, e0⟩ := len4 (l 0 (by omega))
  obtain ⟨y0, y1, y2, y3, e1⟩ := len4 (l 1 (by omega))
  obtain ⟨z0, z1, z2, z3, e2⟩ := len4 (l 2 (by omega))
  obtain ⟨u0, u1, u2, u3, e3⟩ := len4 (l 3 (by omega))
  obtain ⟨v0, v1, v2, v3, e4⟩ := len4 (l 4 (by omega))
  obtain ⟨w0, w1, w2, w3, e5⟩ := len4 (l 5 (by omega))
  rw [e0, e1, e2, e3, e4, e5]
  match i, hi with
  | 0, _ => exact e0
  | 1, _ => exact e1
  | 2, _ => exact e2
  | 3, _ => exact e3
  | 4, _ => exact e4
  | 5, _ => exact e5
theorem cn_rack (d : Nat) {ns : List Int} (h : ns.length = 24) : cn d ns = cn d (tub ns 0) + cn d (tub ns 1) + cn d (tub ns 2) + cn d (tub ns 3) + cn d (tub ns 4) + cn d (tub ns 5) := by
  conv => lhs; rw [six_tubs h]
  rw [cn_app, cn_app, cn_app, cn_app, cn_app]
theorem cn_two (d : Nat) {ns A B : List Int} {p q : Nat} (h : ns.length = 24) (hp : p < 6) (hq : q < 6) (hA : A.length = 4) (hB : B.length = 4) (hne : p ≠ q) (hc : cn d A + cn d B = cn d (tub ns p) + cn d (tub ns q)) : cn d (two ns p q A B) = cn d ns := by
  rw [cn_rack d (two_len h hp hq hA hB), cn_rack d h]
  have ep := two_p h hp hq hA hB hne
  have eq := two_q (p := p) h hp hq hA hB
  have eo := two_o h hp hq hA hB
  generalize two ns p q A B = M at *
  have o0 := eo 0 (by omega); have o1 := eo 1 (by omega); have o2 := eo 2 (by omega); have o3 := eo 3 (by omega); have o4 := eo 4 (by omega); have o5 := eo 5 (by omega)
  clear eo
  have hp' : p = 0 ∨ p = 1 ∨ p = 2 ∨ p = 3 ∨ p = 4 ∨ p = 5 := by omega
  have hq' : q = 0 ∨ q = 1 ∨ q = 2 ∨ q = 3 ∨ q = 4 ∨ q = 5 := by omega
  rw [← ep, ← eq] at hc
  clear ep eq
  rcases hp' with rfl | rfl | rfl | rfl | rfl | rfl <;> rcases hq' with rfl | rfl | rfl | rfl | rfl | rfl <;> first | exact absurd rfl hne | (simp at o0 o1 o2 o3 o4 o5; simp only [o0, o1, o2, o3, o4, o5] at *; omega)
theorem cntUp_cn (ns : List Int) (hv : ∀ j, j < ns.length → 0 ≤ ns.getD j 0 ∧ ns.getD j 0 ≤ 5) : ∀ k, k ≤ ns.length → ∀ d, d < 6 → (cntUp ns k).getD d 0 = (cn d (ns.take k) : Int)
  | 0, _, d, hd => by
    have : cntUp ns 0 = z6 := rfl
    rw [this]
    unfold cn
    match d, hd with
    | 0, _ => rfl
    | 1, _ => rfl
    | 2, _ => rfl
    | 3, _ => rfl
    | 4, _ => rfl
    | 5, _ => rfl
  | k + 1, hk, d, hd => by
    have ih := cntUp_cn ns hv k (by omega)
    have hb := hv k (by omega)
    have hl := (cnt_all ns k).1
    rw [cntUp_step ns k (by omega), List.take_succ_eq_append_getElem (by omega), cn_app]
    have e : ns[k] = ns.getD k 0 := by rw [List.getD_eq_getElem?_getD, List.getElem?_eq_getElem (by omega)]; rfl
    rw [e]
    generalize ns.getD k 0 = x at *
    unfold bump
    by_cases hx : x.toNat = d
    · have c1 : cn d [x] = 1 := by unfold cn; simp [hx]
      rw [c1, hx, List.getD_eq_getElem?_getD, List.getElem?_set_self (by omega), ih d hd]
      simp
    · have c0 : cn d [x] = 0 := by unfold cn; simp [hx]
      rw [c0, List.getD_eq_getElem?_getD, List.getElem?_set_ne (fun e => hx e), ← List.getD_eq_getElem?_getD, ih d hd]
      simp
theorem vR_all {ns : List Int} (h : ns.length = 24) (hv : vR ns = true) (j : Nat) (hj : j < ns.length) : 0 ≤ ns.getD j 0 ∧ ns.getD j 0 ≤ 5 := by
  have hk : known (tub ns (j / 4)) = true := by have := vR_tub hv (j / 4) (by omega); unfold vT at this; exact (Bool.and_eq_true_iff.1 this).1
  have := tub_getD ns (j / 4) (j % 4) (by omega)
  rw [Nat.div_add_mod' j 4] at this
  rw [← this]
  have hl := tub_len ns (j / 4) h (by omega)
  have := List.all_eq_true.1 hk ((tub ns (j / 4)).getD (j % 4) 0) (by rw [List.getD_eq_getElem?_getD, List.getElem?_eq_getElem (by omega)]; exact List.getElem_mem _)
  simpa using this
theorem count_eq {a b : List Int} (ha : a.length = 24) (hb : b.length = 24) (va : vR a = true) (vb : vR b = true) (h : ∀ d, d < 6 → cn d a = cn d b) : countA a = countA b := by
  unfold countA
  rw [if_pos va, if_pos vb]
  have ea := cntUp_cn a (vR_all ha va) 24 (by omega)
  have eb := cntUp_cn b (vR_all hb vb) 24 (by omega)
  rw [List.take_of_length_le (by omega)] at ea eb
  apply List.ext_getElem
  · rw [(cnt_all a 24).1, (cnt_all b 24).1]
  · intro i h1 h2
    have hi : i < 6 := by rw [(cnt_all a 24).1] at h1; exact h1
    have := (ea i hi).trans ((congrArg Int.ofNat (h i hi)).trans (eb i hi).symm)
    rw [List.getD_eq_getElem?_getD, List.getD_eq_getElem?_getD, List.getElem?_eq_getElem h1, List.getElem?_eq_getElem h2] at this
    exact this

/-! pouring back -/
def fromB (s : List Int) : Bool := !decide (0 < topN s) || (topC (fromK s (topN s)) != topC s)
def toB (t : List Int) : Bool := (List.range 5).all fun k => !decide (0 < k ∧ k + lay t ≤ 4) || [1, 2, 3, 4, 5].all fun c => topC (toK t c k) == c && decide (0 < topN (toK t c k))
theorem fromB_all : allT.all fromB = true := by decide +kernel
theorem toB_all : allT.all toB = true := by decide +kernel
structure PourFacts (ns : List Int) (i j : Int) : Prop where
  valid : vR (pourR ns i j) = true
  same : countA (pourR ns i j) = countA ns
  two : twoOk (pourR ns i j) j i = true
  some : 1 ≤ pourA ns i j
  part : pourA ns i j ≤ topNA ns i
  top : topOk ns i = true
  left : inR (pourR ns i j) i = true
  back : ¬ pourA ns i j < topNA ns i → (canA (pourR ns i j) j i = true ↔ layersA (pourR ns i j) i = 0)
theorem pour_facts {ns : List Int} {i j : Int} (h24 : ns.length = 24) (h : pourOk ns i j = true) : PourFacts ns i j := by
  have h2 : twoOk ns i j = true := by unfold pourOk at h; exact (Bool.and_eq_true_iff.1 h).1
  obtain ⟨hv, p, q, rfl, rfl, hp, hq, hne⟩ := twoOk_of h2
  have hpos : 0 < canN (tub ns p) (tub ns q) := by unfold pourOk at h; simpa using (Bool.and_eq_true_iff.1 h).2
  have sp := tub_len ns p h24 hp
  have sq := tub_len ns q h24 hq
  have vp := vR_tub hv p hp
  have vq := vR_tub hv q hq
  have FS := tubeFacts sp vp
  have FT := tubeFacts sq vq
  obtain ⟨k1, k2, k3⟩ := canN_le sp sq vp vq
  have k3 := k3 hpos
  have kt : canN (tub ns p) (tub ns q) ≤ topN (tub ns p) := by unfold canN; split <;> omega
  have eR : pourR ns (p : Int) (q : Int) = two ns p q (fromK (tub ns p) (canN (tub ns p) (tub ns q))) (toK (tub ns q) (topC (tub ns p)) (canN (tub ns p) (tub ns q))) := by
    unfold pourR pourT; rw [if_pos h]; rfl
  have eA : pourA ns (p : Int) (q : Int) = (canN (tub ns p) (tub ns q) : Nat) := by unfold pourA; rw [if_pos h]; rfl
  have iR : inR ns (p : Int) = true := inR_yes hv hp
  have eT : topNA ns (p : Int) = (topN (tub ns p) : Nat) := by unfold topNA; rw [if_pos iR]; rfl
  obtain ⟨f1, f2, f3⟩ := fromK_facts sp vp _ k1
  obtain ⟨t1, t2, t3⟩ := toK_facts sq vq (topC (tub ns p)) k3 _ k2
  have cm := cn_move sp sq vp vq _ hpos kt k2
  have hB : ∀ c : Int, 1 ≤ c ∧ c ≤ 5 → ∀ k, 0 < k → k + lay (tub ns q) ≤ 4 → topC (toK (tub ns q) c k) = c ∧ 0 < topN (toK (tub ns q) c k) := fun c hc k hk0 hk => by
    have b := forT toB toB_all sq vq
    have b1 := List.all_eq_true.1 b k (by simp; omega)
    have e : (0 < k ∧ k + lay (tub ns q) ≤ 4) := ⟨hk0, hk⟩
    simp only [e, decide_true, Bool.not_true, Bool.false_or, and_self] at b1
    have b2 := List.all_eq_true.1 b1 c (by
      have : c = 1 ∨ c = 2 ∨ c = 3 ∨ c = 4 ∨ c = 5 := by omega
      rcases this with rfl | rfl | rfl | rfl | rfl <;> decide)
    simpa using b2
  have hF : 0 < topN (tub ns p) → topC (fromK (tub ns p) (topN (tub ns p))) ≠ topC (tub ns p) := fun h0 => by
    have b := forT fromB fromB_all sp vp
    unfold fromB at b
    simp only [h0, decide_true, Bool.not_true, Bool.false_or] at b
    simpa using b
  obtain ⟨g1, g2⟩ := hB (topC (tub ns p)) k3 _ hpos k2
  have hkk : ¬ canN (tub ns p) (tub ns q) < topN (tub ns p) → canN (tub ns p) (tub ns q) = topN (tub ns p) := fun h => by omega
  generalize hn : canN (tub ns p) (tub ns q) = n at *
  have hlen := two_len h24 hp hq f3 t3
  have vM : vR (two ns p q (fromK (tub ns p) n) (toK (tub ns q) (topC (tub ns p)) n)) = true := vR_of fun o ho => by
    by_cases e1 : o = p
    · subst e1; rw [two_p h24 ho hq f3 t3 hne]; exact f2
    · by_cases e2 : o = q
      · subst e2; rw [two_q h24 hp ho f3 t3]; exact t2
      · rw [two_o h24 hp hq f3 t3 o ho e1 e2]; exact vR_tub hv o ho
  have tp := two_p h24 hp hq f3 t3 hne
  have tq := two_q (p := p) h24 hp hq f3 t3
  refine ⟨by rw [eR]; exact vM, ?_, by rw [eR]; exact twoOk_yes vM hq hp (Ne.symm hne), by rw [eA]; omega, by rw [eA, eT]; omega, ?_, by rw [eR]; exact inR_yes vM hp, ?_⟩
  · rw [eR]
    exact count_eq hlen h24 vM hv fun d hd => cn_two d h24 hp hq f3 t3 hne (cm d hd)
  · unfold topOk
    rw [iR, Bool.true_and]
    have : lay (tub ns ((p : Int)).toNat) ≠ 0 := by
      show lay (tub ns p) ≠ 0
      have := FS.topN
      omega
    simpa using this
  · intro hm
    rw [eA, eT] at hm
    have hn2 := hkk (by omega)
    rw [eR]
    have iM : inR (two ns p q (fromK (tub ns p) n) (toK (tub ns q) (topC (tub ns p)) n)) (p : Int) = true := inR_yes vM hp
    have l0 : layersA (two ns p q (fromK (tub ns p) n) (toK (tub ns q) (topC (tub ns p)) n)) (p : Int) = (lay (fromK (tub ns p) n) : Nat) := by
      unfold layersA
      rw [if_pos iM]
      show ((lay (tub _ p) : Nat) : Int) = _
      rw [tp]
    have c0 : canA (two ns p q (fromK (tub ns p) n) (toK (tub ns q) (topC (tub ns p)) n)) (q : Int) (p : Int) = decide (0 < canN (toK (tub ns q) (topC (tub ns p)) n) (fromK (tub ns p) n)) := by
      unfold canA
      rw [twoOk_yes vM hq hp (Ne.symm hne), Bool.true_and]
      show decide (0 < canN (tub _ q) (tub _ p)) = _
      rw [tp, tq]
    rw [l0, c0]
    have hF := hF (by omega)
    rw [← hn2] at hF
    unfold canN
    by_cases hl : lay (fromK (tub ns p) n) = 0
    · rw [if_neg (by rw [hl]; simp)]
      simp only [decide_eq_true_eq]
      omega
    · rw [if_pos ⟨hl, by rw [g1]; exact hF⟩]
      simp only [decide_eq_true_eq]
      omega
end Go.Proofs.Ytalngdccjoafhab.base
