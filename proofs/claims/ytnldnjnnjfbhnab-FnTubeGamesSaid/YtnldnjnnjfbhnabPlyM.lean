/-
  Plays: next racks, how many plays are at each rack, means over them: plain mathematics.
-/
import Derived.Test.YtnldnjnnjfbhnabPMath
import Derived.Test.YtnldnjnnjfbhnabMulMZ
namespace Go.Proofs.Ytnldnjnnjfbhnab.base
set_option linter.unusedVariables false
set_option linter.unusedSimpArgs false

/-! at most thirty pours -/
theorem pours_five (ns : List Int) (p : Nat) : ∀ q, q ≤ 6 → poursN ns (p * 6 + q) + (if p < q then 1 else 0) ≤ poursN ns (p * 6) + q
  | 0, _ => by simp
  | q + 1, hq => by
    have ih := pours_five ns p q (by omega)
    by_cases hc : p ≠ q ∧ 0 < canN (tub ns p) (tub ns q)
    · rw [poursN_yes ns p q (by omega) hc]
      have := hc.1
      split at ih <;> split <;> omega
    · rw [poursN_no ns p q (by omega) hc]
      split at ih <;> split <;> omega
theorem pours_up (ns : List Int) : ∀ p, p ≤ 6 → poursN ns (p * 6) ≤ p * 5
  | 0, _ => by rw [Nat.zero_mul, (pours0 ns).1]; omega
  | p + 1, hp => by
    have ih := pours_up ns p (by omega)
    have h := pours_five ns p 6 (by omega)
    rw [if_pos (by omega)] at h
    rw [show (p + 1) * 6 = p * 6 + 6 by omega]
    omega
theorem use30 (ns : List Int) : usefNA ns ≤ 30 := by
  unfold usefNA
  split
  · exact Nat.le_trans (usefN_le ns _) (pours_up ns 6 (by omega))
  · omega

def GR (ns : List Int) : Prop := ns.length = 24 ∧ vR ns = true
def upX (ns : List Int) (k : Nat) : Int := (usefFA ns).getD (k * 2) 0
def upY (ns : List Int) (k : Nat) : Int := (usefFA ns).getD (k * 2 + 1) 0
def nxR (ns : List Int) (k : Nat) : List Int := pourR ns (upX ns k) (upY ns k)
/-- The racks at which a play can be next. -/
def nxL (ns : List Int) : List (List Int) := if usefNA ns = 0 then [ns] else (List.range (usefNA ns)).map (nxR ns)
def wy (ns : List Int) : Nat := (nxL ns).length
theorem wy_of (ns : List Int) : wy ns = if usefNA ns = 0 then 1 else usefNA ns := by
  unfold wy nxL
  split
  · rfl
  · rw [List.length_map, List.length_range]
theorem wy_in (ns : List Int) : 1 ≤ wy ns ∧ wy ns ≤ 30 := by
  rw [wy_of]
  have := use30 ns
  split <;> omega
theorem usefFA_len {ns : List Int} : (usefFA ns).length = usefNA ns * 2 := by
  unfold usefFA usefNA
  split
  · exact usefF_len ns _
  · rfl
theorem up_ok {ns : List Int} (G : GR ns) (k : Nat) (hk : k < usefNA ns) : pourOk ns (upX ns k) (upY ns k) = true ∧ ∃ p q : Nat, p < 6 ∧ q < 6 ∧ upX ns k = (p : Int) ∧ upY ns k = (q : Int) := by
  have hin : inL (usefFA ns) (upX ns k) (upY ns k) := ⟨k, by rw [usefFA_len]; omega, rfl, rfl⟩
  have h2 := useful_listed ns _ _ hin
  unfold poursFA at h2
  rw [if_pos G.2] at h2
  obtain ⟨m, hm, hc, h3, h4⟩ := (in_poursF ns _ _ 36).1 h2
  have hp : m / 6 < 6 := by omega
  have hq : m % 6 < 6 := Nat.mod_lt _ (by omega)
  refine ⟨?_, m / 6, m % 6, hp, hq, h3, h4⟩
  rw [h3, h4]
  unfold pourOk
  rw [twoOk_yes G.2 hp hq hc.1, Int.toNat_natCast, Int.toNat_natCast, decide_eq_true hc.2]; rfl
theorem nx_good {ns : List Int} (G : GR ns) (k : Nat) (hk : k < usefNA ns) : GR (nxR ns k) :=
  ⟨pourR_len G.1 _ _, (pour_facts G.1 (up_ok G k hk).1).valid⟩
theorem nxL_good {ns : List Int} (G : GR ns) : ∀ t ∈ nxL ns, GR t := by
  intro t ht
  unfold nxL at ht
  split at ht
  · rw [List.mem_singleton] at ht; subst ht; exact G
  · obtain ⟨k, hk, rfl⟩ := List.mem_map.1 ht
    exact nx_good G k (List.mem_range.1 hk)

/-! sums over lists of racks -/
def fsum (g : List Int → Nat) (L : List (List Int)) : Nat := (L.map g).sum
theorem fsum_nil (g : List Int → Nat) : fsum g [] = 0 := rfl
theorem fsum_cons (g : List Int → Nat) (x : List Int) (L : List (List Int)) : fsum g (x :: L) = g x + fsum g L := by unfold fsum; simp
theorem fsum_app (g : List Int → Nat) (A B : List (List Int)) : fsum g (A ++ B) = fsum g A + fsum g B := by unfold fsum; rw [List.map_append, List.sum_append]
theorem fsum_perm (g : List Int → Nat) {A B : List (List Int)} (h : A.Perm B) : fsum g A = fsum g B := (h.map g).sum_nat
theorem fsum_congr {g h : List Int → Nat} {L : List (List Int)} (e : ∀ x ∈ L, g x = h x) : fsum g L = fsum h L := by
  unfold fsum; rw [List.map_congr_left e]
theorem fsum_le {g h : List Int → Nat} : ∀ {L : List (List Int)}, (∀ x ∈ L, g x ≤ h x) → fsum g L ≤ fsum h L
  | [], _ => Nat.le_refl _
  | x :: L, e => by
    rw [fsum_cons, fsum_cons]
    have := e x (List.mem_cons_self ..)
    have := fsum_le (L := L) fun y hy => e y (List.mem_cons_of_mem _ hy)
    omega
theorem fsum_mul (c : Nat) (g : List Int → Nat) : ∀ L : List (List Int), fsum (fun x => c * g x) L = c * fsum g L
  | [] => by simp [fsum]
  | x :: L => by rw [fsum_cons, fsum_cons, fsum_mul c g L, Nat.mul_add]
theorem fsum_const (c : Nat) : ∀ L : List (List Int), fsum (fun _ => c) L = c * L.length
  | [] => by simp [fsum]
  | x :: L => by rw [fsum_cons, fsum_const c L, List.length_cons, Nat.mul_succ]; omega
theorem fsum_mem (g : List Int → Nat) {L : List (List Int)} {x : List Int} (h : x ∈ L) : g x ≤ fsum g L := by
  induction L with
  | nil => exact absurd h List.not_mem_nil
  | cons y L ih =>
    rw [fsum_cons]
    rcases List.mem_cons.1 h with rfl | h
    · omega
    · have := ih h; omega
/-- Some of the racks, none twice: their sum is no greater. -/
theorem fsum_sub (g : List Int → Nat) : ∀ {A B : List (List Int)}, A.Nodup → (∀ x ∈ A, x ∈ B) → fsum g A ≤ fsum g B
  | [], B, _, _ => by rw [fsum_nil]; omega
  | x :: A, B, hn, hs => by
    rw [List.nodup_cons] at hn
    have hx := hs x (List.mem_cons_self ..)
    have e := fsum_perm g (List.perm_cons_erase hx)
    rw [fsum_cons] at e
    have ih := fsum_sub g (A := A) (B := B.erase x) hn.2 (fun y hy => by
      have hne : y ≠ x := fun e => hn.1 (e ▸ hy)
      exact (List.mem_erase_of_ne hne).2 (hs y (List.mem_cons_of_mem _ hy)))
    rw [fsum_cons]; omega
theorem fsum_all (g : List Int → Nat) {A B : List (List Int)} (hA : A.Nodup) (hB : B.Nodup) (h : ∀ x, x ∈ A ↔ x ∈ B) : fsum g A = fsum g B :=
  fsum_perm g ((List.perm_ext_iff_of_nodup hA hB).2 h)
theorem len_all {A B : List (List Int)} (hA : A.Nodup) (hB : B.Nodup) (h : ∀ x, x ∈ A ↔ x ∈ B) : A.length = B.length :=
  ((List.perm_ext_iff_of_nodup hA hB).2 h).length_eq
/-! a map from racks to numbers: its keys K and its numbers W, 0 elsewhere -/
def insP (K : List (List Int)) (x : List Int) : List (List Int) := if x ∈ K then K else K ++ [x]
def updP (W : List Int → Nat) (x : List Int) (v : Nat) : List Int → Nat := fun l => if l = x then W l + v else W l
structure Tab (K : List (List Int)) (W : List Int → Nat) : Prop where
  nodup : K.Nodup
  out : ∀ l, l ∉ K → W l = 0
  good : ∀ l ∈ K, GR l
def tot (K : List (List Int)) (W g : List Int → Nat) : Nat := fsum (fun l => W l * g l) K
theorem insP_mem (K : List (List Int)) (x y : List Int) : y ∈ insP K x ↔ y ∈ K ∨ y = x := by
  unfold insP
  split
  · rename_i h
    exact ⟨.inl, fun e => e.elim id (fun e => e ▸ h)⟩
  · rw [List.mem_append, List.mem_singleton]
theorem insP_len (K : List (List Int)) (x : List Int) : (insP K x).length ≤ K.length + 1 := by
  unfold insP; split <;> simp
theorem Tab.ins {K : List (List Int)} {W : List Int → Nat} (T : Tab K W) (x : List Int) (v : Nat) (gx : GR x) : Tab (insP K x) (updP W x v) := by
  refine ⟨?_, fun l hl => ?_, fun l hl => ?_⟩
  · unfold insP
    split
    · exact T.nodup
    · rename_i h
      exact List.nodup_append.2 ⟨T.nodup, by simp, fun a ha b hb => by rw [List.mem_singleton] at hb; subst hb; exact fun e => h (e ▸ ha)⟩
  · rw [insP_mem] at hl
    unfold updP
    rw [if_neg (fun e => hl (.inr e))]
    exact T.out l (fun e => hl (.inl e))
  · rcases (insP_mem K x l).1 hl with h | rfl
    · exact T.good l h
    · exact gx
theorem tot_upd {W : List Int → Nat} (x : List Int) (v : Nat) (g : List Int → Nat) : ∀ {K : List (List Int)}, K.Nodup → x ∈ K → tot K (updP W x v) g = tot K W g + v * g x
  | [], _, h => absurd h List.not_mem_nil
  | y :: K, hn, h => by
    rw [List.nodup_cons] at hn
    unfold tot at *
    rw [fsum_cons, fsum_cons]
    by_cases e : y = x
    · subst e
      have e1 : updP W y v y = W y + v := by unfold updP; rw [if_pos rfl]
      have e2 : fsum (fun l => updP W y v l * g l) K = fsum (fun l => W l * g l) K := fsum_congr fun l hl => by
        unfold updP; rw [if_neg (show ¬ l = y from fun e => hn.1 (e ▸ hl))]
      rw [e1, e2, Nat.add_mul]; omega
    · have hx : x ∈ K := by
        rcases List.mem_cons.1 h with h | h
        · exact absurd h.symm e
        · exact h
      have e1 : updP W x v y = W y := by unfold updP; rw [if_neg e]
      have ih := tot_upd (W := W) x v g hn.2 hx
      unfold tot at ih
      rw [e1, ih]; omega
theorem Tab.tot_ins {K : List (List Int)} {W : List Int → Nat} (T : Tab K W) (x : List Int) (v : Nat) (g : List Int → Nat) : tot (insP K x) (updP W x v) g = tot K W g + v * g x := by
  unfold insP
  split
  · rename_i h; exact tot_upd x v g T.nodup h
  · rename_i h
    unfold tot
    rw [fsum_app, fsum_cons, fsum_nil]
    have e1 : updP W x v x = v := by unfold updP; rw [if_pos rfl, T.out x h]; omega
    have e2 : fsum (fun l => updP W x v l * g l) K = fsum (fun l => W l * g l) K := fsum_congr fun l hl => by
      unfold updP; rw [if_neg (show ¬ l = x from fun e => h (e ▸ hl))]
    rw [e1, e2]; omega
theorem Tab.nil : Tab [] (fun _ => 0) := ⟨by simp, fun _ _ => rfl, fun l h => absurd h List.not_mem_nil⟩
theorem Tab.one {r : List Int} (g : GR r) : Tab [r] (fun l => if l = r then 1 else 0) :=
  ⟨by simp, fun l h => by rw [if_neg]; simpa using h, fun l h => by rw [List.mem_singleton] at h; subst h; exact g⟩
theorem tot_one_le {K : List (List Int)} {W : List Int → Nat} {l : List Int} (h : l ∈ K) : W l ≤ tot K W (fun _ => 1) := by
  have := fsum_mem (fun l => W l * 1) h
  unfold tot
  simpa using this

/-! one pour on -/
/-- Several racks are put in, each as often. -/
def addL (K : List (List Int)) (W : List Int → Nat) (v : Nat) : List (List Int) → List (List Int) × (List Int → Nat)
  | [] => (K, W)
  | x :: L => addL (insP K x) (updP W x v) v L
def S1 (g : List Int → Nat) (s : List Int) : Nat := fsum g (nxL s)
/-- The least number of copies that all pours can share out. -/
def lcmW : List (List Int) → Nat
  | [] => 1
  | s :: L => Nat.lcm (lcmW L) (wy s)
def L30 : Nat := 2329089562800
theorem div30 : ∀ n, 1 ≤ n → n ≤ 30 → n ∣ L30 := by
  have h : (List.range 31).all (fun n => decide (n = 0) || decide (L30 % n = 0)) = true := by decide
  intro n h1 h2
  have := List.all_eq_true.1 h n (List.mem_range.2 (by omega))
  simp only [Bool.or_eq_true, decide_eq_true_eq] at this
  rcases this with h0 | h0
  · omega
  · exact Nat.dvd_of_mod_eq_zero h0
theorem wy_div (s : List Int) : wy s ∣ L30 := div30 _ (wy_in s).1 (wy_in s).2
theorem lcmW_div : ∀ L : List (List Int), lcmW L ∣ L30
  | [] => Nat.one_dvd _
  | s :: L => by rw [lcmW]; exact Nat.lcm_dvd (lcmW_div L) (wy_div s)
theorem lcmW_mem {L : List (List Int)} {s : List Int} (h : s ∈ L) : wy s ∣ lcmW L := by
  induction L with
  | nil => exact absurd h List.not_mem_nil
  | cons y L ih =>
    rw [lcmW]
    rcases List.mem_cons.1 h with rfl | h
    · exact Nat.dvd_lcm_right _ _
    · exact Nat.dvd_trans (ih h) (Nat.dvd_lcm_left _ _)
theorem L30_pos : 0 < L30 := by decide
theorem pos_of_dvd {c : Nat} (h : c ∣ L30) : 0 < c := Nat.pos_of_dvd_of_pos h L30_pos
theorem le_of_dvd30 {c : Nat} (h : c ∣ L30) : c ≤ L30 := Nat.le_of_dvd L30_pos h
theorem lcm_step (c w : Nat) (hc : 0 < c) : c / Nat.gcd c w * w = Nat.lcm c w := by
  unfold Nat.lcm
  rw [Nat.div_mul_right_comm (Nat.gcd_dvd_left c w)]

/-! the means -/
def num1 (g : List Int → Nat) (r : List Int) : Nat := S1 g r
def num2 (g : List Int → Nat) (r : List Int) : Nat := fsum (fun x => L30 / wy x * S1 g x) (nxL r)
def numP (n : Nat) (g : List Int → Nat) (r : List Int) : Nat := match n with
  | 0 => g r
  | 1 => num1 g r
  | _ => num2 g r
def denP (n : Nat) (r : List Int) : Nat := match n with
  | 0 => 1
  | 1 => wy r
  | _ => wy r * L30
/-- The racks at which a play can be behind n pours. -/
def endP (n : Nat) (r x : List Int) : Prop := match n with
  | 0 => x = r
  | 1 => x ∈ nxL r
  | _ => ∃ s ∈ nxL r, x ∈ nxL s
/-- So many plays at so many racks are those behind n pours. -/
structure Behind (n : Nat) (r : List Int) (all : Nat) (K : List (List Int)) (W : List Int → Nat) : Prop where
  tab : Tab K W
  pos : 0 < all
  sum : ∀ g, tot K W g * denP n r = numP n g r * all
  ends : ∀ x, x ∈ K ↔ endP n r x
  le : all ≤ 30 * 2329089562800
  less : n < 2 → all ≤ 30
  len : K.length ≤ 30 ^ n
  one : tot K W (fun _ => 1) = all
theorem behind0 {r : List Int} (g : GR r) : Behind 0 r 1 [r] (fun l => if l = r then 1 else 0) := by
  refine ⟨Tab.one g, by omega, fun h => ?_, fun x => by simp [endP], by omega, fun _ => by omega, by simp, by simp [tot, fsum]⟩
  unfold tot
  rw [fsum_cons, fsum_nil]
  show ((if r = r then 1 else 0) * h r + 0) * 1 = h r * 1
  rw [if_pos rfl]
  omega
/-- What one pour more makes of the plays. -/
structure Onward (K : List (List Int)) (W : List Int → Nat) (c : Nat) (K' : List (List Int)) (W' : List Int → Nat) : Prop where
  tab : Tab K' W'
  sum : ∀ g, tot K' W' g = fsum (fun s => W s * (c / wy s) * S1 g s) K
  ends : ∀ x, x ∈ K' ↔ ∃ s ∈ K, x ∈ nxL s
  len : K'.length ≤ 30 * K.length
  div : c ∣ L30
  each : ∀ s ∈ K, wy s ∣ c
theorem S1_one (s : List Int) : S1 (fun _ => 1) s = wy s := by unfold S1; rw [fsum_const]; unfold wy; omega
theorem onward_one {K K' : List (List Int)} {W W' : List Int → Nat} {c : Nat} (O : Onward K W c K' W') : tot K' W' (fun _ => 1) = c * tot K W (fun _ => 1) := by
  rw [O.sum]
  unfold tot
  rw [← fsum_mul]
  refine fsum_congr fun s hs => ?_
  rw [S1_one, Nat.mul_assoc, Nat.div_mul_cancel (O.each s hs)]
  rw [Nat.mul_one, Nat.mul_comm]
theorem onward1 {r : List Int} {all c : Nat} {K K' : List (List Int)} {W W' : List Int → Nat} (B : Behind 0 r all K W) (O : Onward K W c K' W') (hc : c = lcmW [r]) (hK : K = [r]) (hW : W r = 1) (ha : all = 1) : Behind 1 r (all * c) K' W' := by
  subst hK; subst ha
  have hcw : c = wy r := by rw [hc, lcmW, lcmW, Nat.lcm_one_left]
  have hw := wy_in r
  have hs : ∀ g, tot K' W' g = S1 g r := fun g => by
    rw [O.sum, fsum_cons, fsum_nil, hW, hcw, Nat.div_self (by omega)]; omega
  have h1 := onward_one O
  rw [B.one] at h1
  refine ⟨O.tab, by omega, fun g => ?_, fun x => ?_, by omega, fun _ => by omega, ?_, by omega⟩
  · rw [hs]
    show S1 g r * wy r = S1 g r * (1 * c)
    rw [hcw, Nat.one_mul]
  · rw [O.ends]; simp [endP]
  · have := O.len
    simpa using this
theorem onward2 {r : List Int} {all c : Nat} {K K' : List (List Int)} {W W' : List Int → Nat} (B : Behind 1 r all K W) (O : Onward K W c K' W') : Behind 2 r (all * c) K' W' := by
  have h1 := onward_one O
  rw [B.one, Nat.mul_comm] at h1
  have hc := pos_of_dvd O.div
  have hl := le_of_dvd30 O.div
  have ha := B.less (by omega)
  have hp := B.pos
  have hb : all * c ≤ 30 * L30 := Nat.mul_le_mul ha hl
  obtain ⟨t, ht⟩ := O.div
  refine ⟨O.tab, Nat.mul_pos hp hc, fun g => ?_, fun x => ?_, by unfold L30 at hb; exact hb, fun h => by omega, ?_, h1⟩
  · show tot K' W' g * (wy r * L30) = num2 g r * (all * c)
    have e1 : tot K' W' g = tot K W (fun s => c / wy s * S1 g s) := by
      rw [O.sum]; unfold tot
      exact fsum_congr fun s hs => Nat.mul_assoc _ _ _
    have e2 := B.sum (fun s => c / wy s * S1 g s)
    have e3 : num2 g r = t * fsum (fun s => c / wy s * S1 g s) (nxL r) := by
      unfold num2
      rw [← fsum_mul]
      refine fsum_congr fun s hs => ?_
      have hd : wy s ∣ c := O.each s ((B.ends s).2 hs)
      rw [ht, Nat.mul_comm c t, Nat.mul_div_assoc t hd, Nat.mul_assoc]
    have e4 : tot K W (fun s => c / wy s * S1 g s) * wy r = fsum (fun s => c / wy s * S1 g s) (nxL r) * all := e2
    rw [e1, e3, ht]
    generalize fsum (fun s => c / wy s * S1 g s) (nxL r) = F at *
    generalize tot K W (fun s => c / wy s * S1 g s) = X at *
    have : X * (wy r * (c * t)) = X * wy r * (c * t) := by grind
    rw [this, e4]; grind
  · rw [O.ends]
    constructor
    · rintro ⟨s, hs, hx⟩; exact ⟨s, (B.ends s).1 hs, hx⟩
    · rintro ⟨s, hs, hx⟩; exact ⟨s, (B.ends s).2 hs, hx⟩
  · have := O.len
    have := B.len
    have e : (30 : Nat) ^ 1 = 30 := by decide
    have e2 : (30 : Nat) ^ 2 = 900 := by decide
    omega
/-- The mean that the program reckons. -/
theorem behind_cut {n : Nat} {r : List Int} {all : Nat} {K : List (List Int)} {W : List Int → Nat} (B : Behind n r all K W) (g : List Int → Nat) (hn : n ≤ 2) :
    cutN (tot K W g) all = cutN (numP n g r) (denP n r) ∧ cutD (tot K W g) all = cutD (numP n g r) (denP n r) := by
  have hw := wy_in r
  have hd : 0 < denP n r := by
    match n, hn with
    | 0, _ => exact Nat.one_pos
    | 1, _ => exact hw.1
    | 2, _ => exact Nat.mul_pos hw.1 L30_pos
  exact cut_eq B.pos hd (B.sum g)
theorem behind_le {n : Nat} {r : List Int} {all : Nat} {K : List (List Int)} {W : List Int → Nat} (B : Behind n r all K W) (g : List Int → Nat) (hg : ∀ x ∈ K, g x ≤ 24) : tot K W g ≤ 24 * all := by
  have h1 : tot K W g ≤ 24 * tot K W (fun _ => 1) := by
    unfold tot
    rw [← fsum_mul]
    refine fsum_le fun x hx => ?_
    have := hg x hx
    rw [Nat.mul_one, Nat.mul_comm]
    exact Nat.mul_le_mul_right _ this
  rw [B.one] at h1
  exact h1
end Go.Proofs.Ytnldnjnnjfbhnab.base
