/-
  Games: complete tubes, values, best pours: plain mathematics.
-/
import Derived.Test.YtnldnjnnjfbhnabPlyM
namespace Go.Proofs.Ytnldnjnnjfbhnab.base
set_option linter.unusedVariables false
set_option linter.unusedSimpArgs false

/-- The places of the complete ones of the first k tubes. -/
def cmpl (ns : List Int) : Nat → List Int
  | 0 => []
  | k + 1 => if topN (tub ns k) = 4 then cmpl ns k ++ [(k : Int)] else cmpl ns k
def cmN (ns : List Int) : Nat := (cmpl ns 6).length
theorem cmpl_le (ns : List Int) : ∀ k, (cmpl ns k).length ≤ k
  | 0 => by rw [cmpl]; simp
  | k + 1 => by
    have := cmpl_le ns k
    rw [cmpl]
    split
    · rw [List.length_append, List.length_singleton]; omega
    · omega
theorem cmN_le (ns : List Int) : cmN ns ≤ 6 := cmpl_le ns 6
theorem cmpl_yes {ns : List Int} {k : Nat} (h : topN (tub ns k) = 4) : cmpl ns (k + 1) = cmpl ns k ++ [(k : Int)] := by rw [cmpl, if_pos h]
theorem cmpl_no {ns : List Int} {k : Nat} (h : ¬ topN (tub ns k) = 4) : cmpl ns (k + 1) = cmpl ns k := by rw [cmpl, if_neg h]
theorem cmpl_mem (ns : List Int) (j : Nat) : ∀ k, (j : Int) ∈ cmpl ns k ↔ j < k ∧ topN (tub ns j) = 4
  | 0 => by rw [cmpl]; simp
  | k + 1 => by
    have ih := cmpl_mem ns j k
    by_cases h : topN (tub ns k) = 4
    · rw [cmpl_yes h, List.mem_append, List.mem_singleton, ih]
      constructor
      · rintro (⟨h1, h2⟩ | h1)
        · exact ⟨by omega, h2⟩
        · have : j = k := by omega
          subst this; exact ⟨by omega, h⟩
      · rintro ⟨h1, h2⟩
        by_cases e : j = k
        · right; omega
        · left; exact ⟨by omega, h2⟩
    · rw [cmpl_no h, ih]
      constructor
      · rintro ⟨h1, h2⟩; exact ⟨by omega, h2⟩
      · rintro ⟨h1, h2⟩
        have : j ≠ k := fun e => h (e ▸ h2)
        exact ⟨by omega, h2⟩

/-! the greatest of g 0 .. g k -/
def mxU (g : Nat → Int) : Nat → Int
  | 0 => g 0
  | k + 1 => max (mxU g k) (g (k + 1))
theorem mxU_in {g : Nat → Int} {a b : Int} : ∀ k, (∀ j, j ≤ k → a ≤ g j ∧ g j ≤ b) → a ≤ mxU g k ∧ mxU g k ≤ b
  | 0, h => h 0 (Nat.le_refl _)
  | k + 1, h => by
    have ih := mxU_in k fun j hj => h j (by omega)
    have h1 := h (k + 1) (Nat.le_refl _)
    rw [mxU]; omega
theorem mxU_congr {g h : Nat → Int} : ∀ k, (∀ j, j ≤ k → g j = h j) → mxU g k = mxU h k
  | 0, e => e 0 (Nat.le_refl _)
  | k + 1, e => by rw [mxU, mxU, mxU_congr k fun j hj => e j (by omega), e (k + 1) (Nat.le_refl _)]
theorem mxU_ge {g : Nat → Int} : ∀ k j, j ≤ k → g j ≤ mxU g k
  | 0, j, h => by obtain rfl : j = 0 := by omega
                  exact Int.le_refl _
  | k + 1, j, h => by
    rw [mxU]
    by_cases e : j = k + 1
    · subst e; omega
    · have := mxU_ge (g := g) k j (by omega); omega
theorem mxU_is {g : Nat → Int} : ∀ k, ∃ j, j ≤ k ∧ mxU g k = g j
  | 0 => ⟨0, Nat.le_refl _, rfl⟩
  | k + 1 => by
    obtain ⟨j, hj, e⟩ := mxU_is (g := g) k
    rw [mxU]
    by_cases h : mxU g k ≤ g (k + 1)
    · exact ⟨k + 1, Nat.le_refl _, by omega⟩
    · exact ⟨j, by omega, by omega⟩
/-- The same, begun from a number that is no greater. -/
def mxF (a : Int) (g : Nat → Int) : Nat → Int
  | 0 => a
  | k + 1 => max (mxF a g k) (g k)
theorem mxF_mxU {a : Int} {g : Nat → Int} : ∀ k, (∀ j, j ≤ k → a ≤ g j) → mxF a g (k + 1) = mxU g k
  | 0, h => by rw [mxF, mxF, mxU]; have := h 0 (Nat.le_refl _); omega
  | k + 1, h => by rw [mxF, mxF_mxU k fun j hj => h j (by omega), mxU]
theorem mxF_in {a b : Int} {g : Nat → Int} (hab : a ≤ b) : ∀ k, (∀ j, j < k → g j ≤ b) → a ≤ mxF a g k ∧ mxF a g k ≤ b
  | 0, _ => by rw [mxF]; omega
  | k + 1, h => by
    have ih := mxF_in hab k fun j hj => h j (by omega)
    have h1 := h k (by omega)
    rw [mxF]; omega
/-- At the greatest value that there can be, what follows does not matter. -/
theorem mxF_top {a b : Int} {g : Nat → Int} {k m : Nat} (hkm : k ≤ m) (hab : a ≤ b) (hg : ∀ j, j < m → g j ≤ b) (h : mxF a g k = b) : mxF a g m = b := by
  obtain ⟨d, rfl⟩ : ∃ d, m = k + d := ⟨m - k, by omega⟩
  induction d with
  | zero => exact h
  | succ d ih =>
    have ih := ih (by omega) fun j hj => hg j (by omega)
    have h1 := hg (k + d) (by omega)
    rw [show k + (d + 1) = k + d + 1 by omega, mxF, ih]; omega

/-! values -/
def gbest (pt : List Int → Nat → Int) (no : Int) (V : List Int → Int) (ns : List Int) : Int :=
  if usefNA ns = 0 then no else mxU (fun k => pt ns k - V (nxR ns k)) (usefNA ns - 1)
def gval (pt : List Int → Nat → Int) (no : Int) : Nat → List Int → Int
  | 0, _ => 0
  | n + 1, ns => gbest pt no (gval pt no n) ns
def ptE (ns : List Int) (k : Nat) : Int := 0
def ptT (ns : List Int) (k : Nat) : Int := (cmN (nxR ns k) : Int) - (cmN ns : Int)
theorem ptT_in (ns : List Int) (k : Nat) : -6 ≤ ptT ns k ∧ ptT ns k ≤ 6 := by
  have h1 := cmN_le (nxR ns k)
  have h2 := cmN_le ns
  unfold ptT; omega
theorem gbest_in {pt : List Int → Nat → Int} {no a b c d : Int} {V : List Int → Int} (hp : ∀ ns k, a ≤ pt ns k ∧ pt ns k ≤ b) (hV : ∀ l, c ≤ V l ∧ V l ≤ d) (hn : a - d ≤ no ∧ no ≤ b - c) (ns : List Int) : a - d ≤ gbest pt no V ns ∧ gbest pt no V ns ≤ b - c := by
  unfold gbest
  split
  · exact hn
  · refine mxU_in _ fun j _ => ?_
    have h1 := hp ns j
    have h2 := hV (nxR ns j)
    omega
theorem gvalE_in : ∀ n ns, -1 ≤ gval ptE (-1) n ns ∧ gval ptE (-1) n ns ≤ 1
  | 0, ns => by rw [gval]; omega
  | n + 1, ns => by
    have h := gbest_in (pt := ptE) (no := -1) (a := 0) (b := 0) (fun ns k => ⟨Int.le_refl _, Int.le_refl _⟩) (gvalE_in n) (by omega) ns
    rw [gval]; omega
theorem gvalT_in : ∀ (n : Nat) ns, -6 * (n : Int) ≤ gval ptT 0 n ns ∧ gval ptT 0 n ns ≤ 6 * n
  | 0, ns => by rw [gval]; omega
  | n + 1, ns => by
    have h := gbest_in (pt := ptT) (no := 0) ptT_in (gvalT_in n) (by omega) ns
    rw [gval]; omega
theorem gbest_congr {pt : List Int → Nat → Int} {no : Int} {V W : List Int → Int} {ns : List Int} (h : ∀ k, k < usefNA ns → V (nxR ns k) = W (nxR ns k)) : gbest pt no V ns = gbest pt no W ns := by
  unfold gbest
  split
  · rfl
  · exact mxU_congr _ fun j hj => by rw [h j (by omega)]
/-- The pours that are worth b, flat, of the first k. -/
def bpF (pt : List Int → Nat → Int) (V : List Int → Int) (ns : List Int) (b : Int) : Nat → List Int
  | 0 => []
  | k + 1 => if pt ns k - V (nxR ns k) = b then bpF pt V ns b k ++ [upX ns k, upY ns k] else bpF pt V ns b k
def bpN (pt : List Int → Nat → Int) (V : List Int → Int) (ns : List Int) (b : Int) (k : Nat) : Nat := (bpF pt V ns b k).length / 2
theorem bp0 (pt : List Int → Nat → Int) (V : List Int → Int) (ns : List Int) (b : Int) : bpN pt V ns b 0 = 0 ∧ bpF pt V ns b 0 = [] := ⟨by unfold bpN; rw [bpF]; rfl, rfl⟩
theorem bp_le (pt : List Int → Nat → Int) (V : List Int → Int) (ns : List Int) (b : Int) : ∀ k, bpN pt V ns b k ≤ k ∧ (bpF pt V ns b k).length = bpN pt V ns b k * 2
  | 0 => by rw [(bp0 pt V ns b).1, (bp0 pt V ns b).2]; simp
  | k + 1 => by
    have h := bp_le pt V ns b k
    unfold bpN at *
    rw [bpF]
    split
    · rw [List.length_append, List.length_cons, List.length_singleton]; omega
    · omega
theorem bp_yes {pt : List Int → Nat → Int} {V : List Int → Int} {ns : List Int} {b : Int} {k : Nat} (h : pt ns k - V (nxR ns k) = b) : bpF pt V ns b (k + 1) = bpF pt V ns b k ++ [upX ns k, upY ns k] ∧ bpN pt V ns b (k + 1) = bpN pt V ns b k + 1 := by
  have e : bpF pt V ns b (k + 1) = bpF pt V ns b k ++ [upX ns k, upY ns k] := by rw [bpF, if_pos h]
  exact ⟨e, by unfold bpN; rw [e, List.length_append]; simp⟩
theorem bp_no {pt : List Int → Nat → Int} {V : List Int → Int} {ns : List Int} {b : Int} {k : Nat} (h : ¬ pt ns k - V (nxR ns k) = b) : bpF pt V ns b (k + 1) = bpF pt V ns b k ∧ bpN pt V ns b (k + 1) = bpN pt V ns b k := by
  have e : bpF pt V ns b (k + 1) = bpF pt V ns b k := by rw [bpF, if_neg h]
  exact ⟨e, by unfold bpN; rw [e]⟩
theorem bp_congr {pt : List Int → Nat → Int} {V W : List Int → Int} {ns : List Int} {b : Int} : ∀ k, (∀ j, j < k → V (nxR ns j) = W (nxR ns j)) → bpF pt V ns b k = bpF pt W ns b k
  | 0, _ => rfl
  | k + 1, h => by rw [bpF, bpF, bp_congr k (fun j hj => h j (by omega)), h k (by omega)]

/-! useful pours, by their places -/
theorem in_usefI (ns : List Int) (x y : Int) : ∀ m, m ≤ poursN ns 36 → inL (usefF ns m) x y → ∃ j, j < m ∧ idl ns (fstP ns j) (sndP ns j) = false ∧ x = (fstP ns j : Int) ∧ y = (sndP ns j : Int)
  | 0, _, h => absurd ((usef0 ns).2 ▸ h) (inL_nil x y)
  | m + 1, hm, h => by
    cases hc : idl ns (fstP ns m) (sndP ns m) with
    | true =>
      obtain ⟨e, _⟩ := usef_idle hc
      rw [e] at h
      obtain ⟨j, hj, r⟩ := in_usefI ns x y m (by omega) h
      exact ⟨j, by omega, r⟩
    | false =>
      obtain ⟨e, _⟩ := usef_new hc
      rw [e, inL_app (usefF_len ns m)] at h
      rcases h with h | ⟨h1, h2⟩
      · obtain ⟨j, hj, r⟩ := in_usefI ns x y m (by omega) h
        exact ⟨j, by omega, r⟩
      · exact ⟨m, by omega, hc, h1, h2⟩
theorem up_natG {ns : List Int} (G : GR ns) (k : Nat) (hk : k < usefNA ns) : ∃ p q : Nat, p < 6 ∧ q < 6 ∧ p ≠ q ∧ 0 < canN (tub ns p) (tub ns q) ∧ idl ns p q = false ∧ upX ns k = (p : Int) ∧ upY ns k = (q : Int) ∧ nxR ns k = pourT ns p q ∧ pourOk ns (p : Int) (q : Int) = true := by
  obtain ⟨hok, p, q, hp, hq, hx, hy⟩ := up_ok G k hk
  rw [hx, hy] at hok
  have h2 : twoOk ns (p : Int) (q : Int) = true := by unfold pourOk at hok; exact (Bool.and_eq_true_iff.1 hok).1
  obtain ⟨_, p2, q2, e1, e2, _, _, hne⟩ := twoOk_of h2
  have hpos : 0 < canN (tub ns p) (tub ns q) := by unfold pourOk at hok; simpa using (Bool.and_eq_true_iff.1 hok).2
  have hin : inL (usefF ns (poursN ns 36)) (upX ns k) (upY ns k) := by
    have h3 : inL (usefFA ns) (upX ns k) (upY ns k) := ⟨k, by rw [usefFA_len]; omega, rfl, rfl⟩
    unfold usefFA at h3; rw [if_pos G.2] at h3; exact h3
  obtain ⟨j, hj, hid, h4, h5⟩ := in_usefI ns _ _ _ (Nat.le_refl _) hin
  rw [hx] at h4
  rw [hy] at h5
  have e3 : fstP ns j = p := by omega
  have e4 : sndP ns j = q := by omega
  rw [e3, e4] at hid
  refine ⟨p, q, hp, hq, by omega, hpos, hid, hx, hy, ?_, hok⟩
  unfold nxR
  rw [hx, hy]
  unfold pourR
  rw [if_pos hok]; simp
/-- A pour completes the tube that it goes to. -/
def cpl (ns : List Int) (k : Nat) : Bool := decide (topN (tub (nxR ns k) (upY ns k).toNat) = 4)
def anyC (ns : List Int) (k : Nat) : Bool := (List.range k).any (cpl ns)
theorem anyC_succ (ns : List Int) (k : Nat) : anyC ns (k + 1) = (anyC ns k || cpl ns k) := by
  unfold anyC; rw [List.range_succ, List.any_append]; simp
/-- The pours behind which a tube can be completed, flat, of the first k. -/
def hurF (ns : List Int) : Nat → List Int
  | 0 => []
  | k + 1 => if anyC (nxR ns k) (usefNA (nxR ns k)) = true then hurF ns k ++ [upX ns k, upY ns k] else hurF ns k
def hurN (ns : List Int) (k : Nat) : Nat := (hurF ns k).length / 2
theorem hur0 (ns : List Int) : hurN ns 0 = 0 ∧ hurF ns 0 = [] := ⟨by unfold hurN; rw [hurF]; rfl, rfl⟩
theorem hur_le (ns : List Int) : ∀ k, hurN ns k ≤ k ∧ (hurF ns k).length = hurN ns k * 2
  | 0 => by rw [(hur0 ns).1, (hur0 ns).2]; simp
  | k + 1 => by
    have h := hur_le ns k
    unfold hurN at *
    rw [hurF]
    split
    · rw [List.length_append, List.length_cons, List.length_singleton]; omega
    · omega
theorem hur_yes {ns : List Int} {k : Nat} (h : anyC (nxR ns k) (usefNA (nxR ns k)) = true) : hurF ns (k + 1) = hurF ns k ++ [upX ns k, upY ns k] ∧ hurN ns (k + 1) = hurN ns k + 1 := by
  have e : hurF ns (k + 1) = hurF ns k ++ [upX ns k, upY ns k] := by rw [hurF, if_pos h]
  exact ⟨e, by unfold hurN; rw [e, List.length_append]; simp⟩
theorem hur_no {ns : List Int} {k : Nat} (h : anyC (nxR ns k) (usefNA (nxR ns k)) = false) : hurF ns (k + 1) = hurF ns k ∧ hurN ns (k + 1) = hurN ns k := by
  have e : hurF ns (k + 1) = hurF ns k := by rw [hurF, if_neg (by rw [h]; simp)]
  exact ⟨e, by unfold hurN; rw [e]⟩
def replF (ns : List Int) (k : Nat) : List Int := (List.range k).map fun j => (usefNA (nxR ns j) : Int)
theorem replF_len (ns : List Int) (k : Nat) : (replF ns k).length = k := by unfold replF; rw [List.length_map, List.length_range]
theorem replF_succ (ns : List Int) (k : Nat) : replF ns (k + 1) = replF ns k ++ [(usefNA (nxR ns k) : Int)] := by unfold replF; rw [List.range_succ, List.map_append]; rfl
/-- A turn: its places and the rack behind it. -/
def trn (ns : List Int) (k : Nat) : List Int := upX ns k :: upY ns k :: nxR ns k
def trL (ns : List Int) (k : Nat) : List (List Int) := (List.range k).map (trn ns)
theorem trL_len (ns : List Int) (k : Nat) : (trL ns k).length = k := by unfold trL; rw [List.length_map, List.length_range]
theorem trL_succ (ns : List Int) (k : Nat) : trL ns (k + 1) = trL ns k ++ [trn ns k] := by unfold trL; rw [List.range_succ, List.map_append]; rfl
theorem trL_get (ns : List Int) {k N : Nat} (h : k < N) : (trL ns N).getD k [] = trn ns k := by
  unfold trL; rw [List.getD_eq_getElem?_getD, List.getElem?_map, List.getElem?_range h]; rfl
end Go.Proofs.Ytnldnjnnjfbhnab.base
