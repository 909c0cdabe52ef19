/-
  Fractions in lowest terms, on both sides, walked.
-/
/-
  Stocks: their sizes and in how many orders they can be put, on both sides, walked.
-/
import Derived.Test.YtemiljokdedidacMulMZ
import Derived.Test.YtemiljokdedidacSixVZ
import Derived.Deep.RegionHeld3
import Derived.Test.YtemiljokdedidacVwMZ
import Derived.Deep.Cut
import Derived.Deep.CutRange

section
namespace Go.Proofs.Ytemiljokdedidac.base
open Go.ChangeShapes Go.WideShapes Go.ChangeAt Go.RowKit
set_option linter.unusedVariables false
set_option linter.unusedSimpArgs false

def z2 : List Int := [0, 0]
theorem Has.zero2v (w : World) (T : TypeId) : Has (w.alloc (.cells #[.int .i64 0, .int .i64 0] T)) w.heap.size z2 2 := Has.box (ns := z2) w T rfl (by decide)
theorem build2z (w : World) : (Instr.build 33 #[]).run Try.prog w = .ok (.agg (ints z2).toArray) w := by kernel_rfl

set_option maxHeartbeats 400000 in
theorem eqIntA2v (t : List Int) (w : World) (h2 : t.length = 2) :
    Calls Try.prog 18 #[.agg (ints t).toArray, .agg (ints t).toArray] w fun e w' => e = .returned (.bool true) ∧ Kept w w' := by
  have HB := Lib.hid (((kept_refl w).alloc (.cells (ints t).toArray 33)).alloc (.cells (ints t).toArray 33))
  have H1 := (Has.box w 33 h2 (by omega)).alloc (.cells (ints t).toArray 33)
  have H2 := (Has.box (w.alloc (.cells (ints t).toArray 33)) 33 h2 (by omega)).at (size1 _ _)
  go_enter Try.func18, Try.ntmps18
  go_wp2_with fail
  have HL := Lib.hid h2
  clear h2
  generalize ((w.alloc (.cells (ints t).toArray 33)).alloc (.cells (ints t).toArray 33)) = W at *
  go_loopw [5] (fun z wr => ∃ k : Nat, k ≤ 2 ∧ z = .int .i64 k ∧ Has wr w.heap.size t 2 ∧ Has wr (w.heap.size + 1) t 2 ∧ Hid (Kept w wr)) (fun z _ => 2 - (intOf z).toNat)
  case atStart => exact ⟨0, by omega, rfl, H1, H2, HB⟩
  case round =>
    obtain ⟨k, hk, rfl, G1, G2, GB⟩ := hrel
    by_cases h : k < 2
    · have c1 := G1.cell k h
      have c2 := G2.cell k h
      have hki : (k : Int) < 2 := by omega
      have hk0 : (0 : Int) ≤ (k : Int) := by omega
      generalize t.getD k 0 = x at *
      go_wp2_with fail
      go_quiet (fail)
      have G3 := G1.drewN nq
      have G4 := G2.drewN nq
      have GB2 := Lib.hid (GB.out.drewN nq)
      go_wp2_with fail
      go_roundw
      case rel => exact ⟨k + 1, by omega, by go_num, G3, G4, GB2⟩
      case measure => simp [intOf]; omega
    · go_wp2_with fail
      go_ret
      exact ⟨rfl, GB.out⟩

theorem fMost_any (a b : Int) (w : World) :
    Calls Try.prog 34 #[.int .i64 a, .int .i64 b] w fun e w' => e = .returned (.int .i64 (max a b)) ∧ w' = w := by
  by_cases h : b < a
  · have e : max a b = a := by omega
    rw [e]
    clear e
    go_enter Try.func34, Try.ntmps34
    go_wp2_with fail
    go_ret
    exact ⟨rfl, rfl⟩
  · have e : max a b = b := by omega
    have q : decide (b < a) = false := by simpa using h
    rw [e]
    clear e h
    go_enter Try.func34, Try.ntmps34
    go_wp2_with fail
    go_ret
    exact ⟨rfl, rfl⟩
theorem fLeast_any (a b : Int) (w : World) :
    Calls Try.prog 33 #[.int .i64 a, .int .i64 b] w fun e w' => e = .returned (.int .i64 (min a b)) ∧ w' = w := by
  by_cases h : a < b
  · have e : min a b = a := by omega
    rw [e]
    clear e
    go_enter Try.func33, Try.ntmps33
    go_wp2_with fail
    go_ret
    exact ⟨rfl, rfl⟩
  · have e : min a b = b := by omega
    have q : decide (a < b) = false := by simpa using h
    rw [e]
    clear e h
    go_enter Try.func33, Try.ntmps33
    go_wp2_with fail
    go_ret
    exact ⟨rfl, rfl⟩

/-- A part of a whole, in lowest terms. -/
def frac (a b : Nat) : List Int := [(cutN a b : Int), (cutD a b : Int)]
theorem frac_len (a b : Nat) : (frac a b).length = 2 := rfl
theorem frac_ints (a b : Nat) : (Value.agg #[.int .i64 (cutN a b : Int), .int .i64 (cutD a b : Int)]) = .agg (ints (frac a b)).toArray := rfl
/-- What the machine reckons at the end. -/
theorem frac_div (a b : Nat) (hb : 0 < b) (ha : a ≤ 4611686018427387904) (hb2 : b ≤ 4611686018427387904) :
    ∃ g : Nat, 0 < g ∧ g = Nat.gcd b a ∧ g ≤ b ∧ Int.tdiv (a : Int) (g : Int) = (cutN a b : Int) ∧ Int.tdiv (b : Int) (g : Int) = (cutD a b : Int) ∧ IntKind.i64.wrap (cutN a b : Int) = (cutN a b : Int) ∧ IntKind.i64.wrap (cutD a b : Int) = (cutD a b : Int) := by
  have e : Nat.gcd b a = Nat.gcd a b := Nat.gcd_comm b a
  have p := cut_gcd_pos a b hb
  have h1 := cutN_le a b
  have h2 := cutD_le a b
  refine ⟨Nat.gcd b a, by rw [e]; exact p, rfl, Nat.le_of_dvd hb (Nat.gcd_dvd_left b a), ?_, ?_, IntWalk.i64_in _ (by omega), IntWalk.i64_in _ (by omega)⟩
  · rw [e]; rfl
  · rw [e]; rfl

set_option maxHeartbeats 400000 in
theorem comDiv_any (a b : Nat) (w : World) (ha : a ≤ 4611686018427387904) (hb : b ≤ 4611686018427387904) :
    Calls Try.prog 113 #[.int .i64 a, .int .i64 b] w fun e w' => e = .returned (.int .i64 (Nat.gcd a b : Nat)) ∧ Kept w w' := by
  have HB := Lib.hid (kept_refl w)
  obtain ⟨g, eg⟩ : ∃ g, Nat.gcd a b = g := ⟨_, rfl⟩
  have EG := Lib.hid eg
  rw [eg]
  clear eg
  go_enter Try.func113, Try.ntmps113
  go_wp2_with fail
  go_loopw [0, 1] (fun x y wr => ∃ p q : Nat, x = .int .i64 p ∧ y = .int .i64 q ∧ p ≤ 4611686018427387904 ∧ q ≤ 4611686018427387904 ∧ Hid (Nat.gcd p q = g) ∧ Hid (Kept w wr)) (fun _ y _ => (intOf y).toNat)
  case atStart => exact ⟨a, b, rfl, rfl, ha, hb, EG, HB⟩
  case round =>
    obtain ⟨p, q, rfl, rfl, hp, hq, HG, GB⟩ := hrel
    by_cases h0 : q = 0
    · subst h0
      have e : p = g := by have := HG.out; rwa [Nat.gcd_zero_right] at this
      subst e
      clear HG EG
      go_wp2_with fail
      go_ret
      exact ⟨rfl, GB.out⟩
    · have hm : Int.tmod (p : Int) (q : Int) = ((p % q : Nat) : Int) := rfl
      have q0 : ((q : Int) == 0) = false := by simp; omega
      have q1 : ((q : Int) != 0) = true := by simp; omega
      have hl := Nat.mod_lt p (show 0 < q by omega)
      have HG2 := Lib.hid (show Nat.gcd q (p % q) = g by rw [gcd_round p q h0]; exact HG.out)
      have HL := Lib.hid hl
      have hr : p % q ≤ 4611686018427387904 := by omega
      have w3 : IntKind.i64.wrap ((p % q : Nat) : Int) = ((p % q : Nat) : Int) := IntWalk.i64_in _ (by omega)
      clear hl
      generalize p % q = r at *
      go_wp2_with fail
      go_quiet (fail)
      have GB2 := Lib.hid (GB.out.drewN nq)
      go_wp2_with fail
      go_roundw
      case rel => exact ⟨q, r, rfl, rfl, hq, hr, HG2, GB2⟩
      case measure => have := HL.out; simp [intOf]; omega

set_option maxHeartbeats 800000 in
set_option maxRecDepth 100000 in
theorem fraction_any (a b : Nat) (w : World) (hb : 0 < b) (ha : a ≤ 4611686018427387904) (hb2 : b ≤ 4611686018427387904) :
    Calls Try.prog 90 #[.int .i64 a, .int .i64 b] w fun e w' => e = .returned (.agg (ints (frac a b)).toArray) ∧ Kept w w' := by
  obtain ⟨g, g0, eg, gb, d1, d2, w1, w2⟩ := frac_div a b hb ha hb2
  rw [Nat.gcd_comm] at eg
  have Z := Has.zero2v w 33
  have HB := Lib.hid ((kept_refl w).alloc (.cells #[.int .i64 0, .int .i64 0] 33))
  have KG := Lib.hid (fun W => comDiv_any a b W ha hb2)
  rw [← eg] at KG
  have p0 : ((g : Int) == 0) = false := by simp; omega
  have pn : ¬ g = 0 := by omega
  have lf := frac_len a b
  have li : (ints (frac a b)).length = 2 := rfl
  have hi2 : (Try.prog.info? 33).map (·.size) = some (ints (frac a b)).length := by rw [li]; kernel_rfl
  clear eg
  go_enter Try.func90, Try.ntmps90
  go_wp2_with fail
  refine (KG.out _).mono ?_
  rintro e w3 ⟨rfl, b3⟩
  have Z3 := Z.below b3
  have HB3 := Lib.hid (HB.out.call b3)
  clear Z HB b3 KG
  go_wp2_with fail
  refine wp_region_held_drew (S := fun w' => True) (by kernel_rfl) trivial (fun hHeld => ?_)
  have S0 := Z3.drew
  have SB := HB3.out.drewN 1
  change Kept w (World.drew w3) at SB
  generalize World.drew w3 = WD at *
  have S1 := S0.putAll (frac a b) lf
  have S2 := SB.puts (b := w.heap.size) (Nat.le_refl _) 0 (ints (frac a b))
  (refine wpAnyH_take (i := 0) (v := ?_) rfl (by kernel_rfl) (by kernel_rfl) (by kernel_rfl) (fun _ _ _ h => h) (Or.inl ⟨by rfl, ?_⟩) hHeld ?_; rotate_left; (· (intro w' hSw; go_simp; try with_reducible rfl)); (try simp only [List.getElem_toArray, List.getElem_cons_zero, List.getElem_cons_succ, Act.put, List.setIfInBounds_toArray, List.set_cons_zero, List.set_cons_succ])); (refine wpAnyH_take (i := 1) (v := ?_) rfl (by kernel_rfl) (by kernel_rfl) (by kernel_rfl) (fun _ _ _ h => h) (Or.inl ⟨by rfl, ?_⟩) hHeld ?_; rotate_left; (· (intro w' hSw; go_simp; try with_reducible rfl)); (try simp only [List.getElem_toArray, List.getElem_cons_zero, List.getElem_cons_succ, Act.put, List.setIfInBounds_toArray, List.set_cons_zero, List.set_cons_succ])); (refine wpAnyH_take (i := 2) (v := ?_) rfl (by kernel_rfl) (by kernel_rfl) (by kernel_rfl) (fun _ _ _ h => h) (Or.inl ⟨by rfl, ?_⟩) hHeld ?_; rotate_left; (· (intro w' hSw; go_simp; try with_reducible rfl)); (try simp only [List.getElem_toArray, List.getElem_cons_zero, List.getElem_cons_succ, Act.put, List.setIfInBounds_toArray, List.set_cons_zero, List.set_cons_succ])); (refine wpAnyH_take (i := 3) (v := ?_) rfl (by kernel_rfl) (by kernel_rfl) (by kernel_rfl) (fun _ _ _ h => h) (Or.inl ⟨by rfl, ?_⟩) hHeld ?_; rotate_left; (· (intro w' hSw; go_simp; try with_reducible rfl)); (try simp only [List.getElem_toArray, List.getElem_cons_zero, List.getElem_cons_succ, Act.put, List.setIfInBounds_toArray, List.set_cons_zero, List.set_cons_succ])); (refine wpAnyH_take (i := 4) (v := ?_) rfl (by kernel_rfl) (by kernel_rfl) (by kernel_rfl) (fun _ _ _ h => h) (Or.inl ⟨by rfl, ?_⟩) hHeld ?_; rotate_left; (· (intro w' hSw; go_simp; try with_reducible rfl)); (try simp only [List.getElem_toArray, List.getElem_cons_zero, List.getElem_cons_succ, Act.put, List.setIfInBounds_toArray, List.set_cons_zero, List.set_cons_succ])); (refine wpAnyH_take (i := 5) (v := ?_) rfl (by kernel_rfl) (by kernel_rfl) (by kernel_rfl) (fun _ _ _ h => h) (Or.inl ⟨by rfl, ?_⟩) hHeld ?_; rotate_left; (· (intro w' hSw; go_simp; try with_reducible rfl)); (try simp only [List.getElem_toArray, List.getElem_cons_zero, List.getElem_cons_succ, Act.put, List.setIfInBounds_toArray, List.set_cons_zero, List.set_cons_succ])); (refine wpAnyH_take (i := 6) (v := ?_) rfl (by kernel_rfl) (by kernel_rfl) (by kernel_rfl) (fun _ _ _ h => h) (Or.inl ⟨by rfl, ?_⟩) hHeld ?_; rotate_left; (· (intro w' hSw; go_simp; try with_reducible rfl)); (try simp only [List.getElem_toArray, List.getElem_cons_zero, List.getElem_cons_succ, Act.put, List.setIfInBounds_toArray, List.set_cons_zero, List.set_cons_succ]))
  (refine wpAnyH_ready (rs := [7]) (by kernel_rfl) (by simp) ?_; refine AllReadyH.cons (o := _) rfl (fun K hK => ?_) AllReadyH.nil; (simp only [List.getElem_toArray, List.getElem_cons_zero, List.getElem_cons_succ, Region.wanted, if_true]); refine wp_store_mid _ _ _ rfl _ _ (ints (frac a b)).toArray rfl rfl (by simpa [li] using S0.there) (by simpa [li] using hi2) (all_oneCell_toArray (ints_one _)) ?_; (try simp only [List.getElem_toArray, List.getElem_cons_zero, List.getElem_cons_succ, Act.put, List.setIfInBounds_toArray, List.set_cons_zero, List.set_cons_succ, List.toList_toArray]); refine hK.out _ _ (trivial) (fun hHeld => ?_); clear hK K)
  refine wpAnyH_done (by kernel_rfl) ?_ _
  clear hHeld
  go_wp2_with fail
  exact bodyPost_ret (res_has rfl _ _ w.heap.size (frac a b) 2 _ rfl S1 Try.underlying33 rfl (by kernel_rfl)) rfl ⟨rfl, S2⟩

theorem Has.cellX {w : World} {b n k : Nat} {ns : List Int} {x : Int} (h : Has w b ns n) (hk : k < n) (hx : ns.getD k 0 = x) : w.cell? ⟨b, k, none⟩ = some (.int .i64 x) := by rw [h.cell k hk, hx]

set_option maxHeartbeats 800000 in
set_option maxRecDepth 100000 in
theorem l7Cut_any (a b : Nat) (w : World) (hb : 0 < b) (ha : a ≤ 4611686018427387904) (hb2 : b ≤ 4611686018427387904) :
    Calls Try.prog 44 #[.int .i64 a, .int .i64 b] w fun e w' => e = .returned (.agg (ints (frac a b)).toArray) ∧ Kept w w' := by
  obtain ⟨g, g0, eg, gb, d1, d2, w1, w2⟩ := frac_div a b hb ha hb2
  have D1 := Lib.hid d1
  have D2 := Lib.hid d2
  have EG := Lib.hid eg
  have Z := Has.zero2v w 33
  have HB := Lib.hid ((kept_refl w).alloc (.cells #[.int .i64 0, .int .i64 0] 33))
  clear d1 d2 eg
  go_enter Try.func44, Try.ntmps44
  go_wp2_with fail
  generalize w.alloc (.cells #[.int .i64 0, .int .i64 0] 33) = W at *
  go_loopw [5, 6] (fun x y wr => ∃ p q : Nat, x = .int .i64 p ∧ y = .int .i64 q ∧ p ≤ 4611686018427387904 ∧ q ≤ 4611686018427387904 ∧ Hid (Nat.gcd p q = g) ∧ Has wr w.heap.size z2 2 ∧ Hid (Kept w wr)) (fun _ y _ => (intOf y).toNat)
  case atStart => exact ⟨a, b, rfl, rfl, ha, hb2, Lib.hid (by rw [EG.out, Nat.gcd_comm]), Z, HB⟩
  case round =>
    obtain ⟨p, q, rfl, rfl, hp, hq, HG, GZ, GB⟩ := hrel
    by_cases h0 : q = 0
    · subst h0
      have e : p = g := by have := HG.out; rwa [Nat.gcd_zero_right] at this
      subst e
      have d1 := D1.out
      have d2 := D2.out
      have p0 : ((p : Int) == 0) = false := by simp; omega
      have pn : ¬ p = 0 := by omega
      have KM : ∀ W : World, Calls Try.prog 34 #[.int .i64 (p : Int), .int .i64 1] W fun e w' => e = .returned (.int .i64 (p : Int)) ∧ w' = W := fun W => by
        have := fMost_any (p : Int) 1 W
        rwa [show max (p : Int) 1 = (p : Int) by omega] at this
      have HM := Lib.hid KM
      clear HG D1 D2 KM
      have lf := frac_len a b
      have li : (ints (frac a b)).length = 2 := rfl
      have hi2 : (Try.prog.info? 33).map (·.size) = some (ints (frac a b)).length := by rw [li]; kernel_rfl
      go_wp2_with fail
      refine wp_region_held_drew (S := fun w' => (∃ zs, Has w' w.heap.size zs 2) ∧ Kept w w') (by kernel_rfl) ⟨⟨_, GZ.drew⟩, GB.out.drewN 1⟩ (fun hHeld => ?_)
      generalize World.drew wr = WD at *
      (refine wpAnyH_take (i := 0) (v := ?_) rfl (by kernel_rfl) (by kernel_rfl) (by kernel_rfl) (fun _ _ _ h => h) (Or.inl ⟨by rfl, ?_⟩) hHeld ?_; rotate_left; (· (intro w' hSw; go_simp; try with_reducible rfl)); (try simp only [List.getElem_toArray, List.getElem_cons_zero, List.getElem_cons_succ, Act.put, List.setIfInBounds_toArray, List.set_cons_zero, List.set_cons_succ])); (refine wpAnyH_take (i := 1) (v := ?_) rfl (by kernel_rfl) (by kernel_rfl) (by kernel_rfl) (fun _ _ _ h => h) (Or.inl ⟨by rfl, ?_⟩) hHeld ?_; rotate_left; (· (intro w' hSw; go_simp; try with_reducible rfl)); (try simp only [List.getElem_toArray, List.getElem_cons_zero, List.getElem_cons_succ, Act.put, List.setIfInBounds_toArray, List.set_cons_zero, List.set_cons_succ])); (refine wpAnyH_take (i := 4) (v := ?_) rfl (by kernel_rfl) (by kernel_rfl) (by kernel_rfl) (fun _ _ _ h => h) (Or.inl ⟨by rfl, ?_⟩) hHeld ?_; rotate_left; (· (intro w' hSw; go_simp; try with_reducible rfl)); (try simp only [List.getElem_toArray, List.getElem_cons_zero, List.getElem_cons_succ, Act.put, List.setIfInBounds_toArray, List.set_cons_zero, List.set_cons_succ])); (refine wpAnyH_take (i := 5) (v := ?_) rfl (by kernel_rfl) (by kernel_rfl) (by kernel_rfl) (fun _ _ _ h => h) (Or.inl ⟨by rfl, ?_⟩) hHeld ?_; rotate_left; (· (intro w' hSw; go_simp; try with_reducible rfl)); (try simp only [List.getElem_toArray, List.getElem_cons_zero, List.getElem_cons_succ, Act.put, List.setIfInBounds_toArray, List.set_cons_zero, List.set_cons_succ]))
      (refine wpAnyH_ready (rs := [2]) (by kernel_rfl) (by simp) ?_; refine AllReadyH.cons (o := _) rfl (fun K hK => ?_) AllReadyH.nil; (simp only [List.getElem_toArray, List.getElem_cons_zero, List.getElem_cons_succ, Region.wanted, if_true]))
      go_simp
      refine (HM.out _).mono ?_
      rintro e w' ⟨rfl, rfl⟩
      dsimp only
      (try simp only [List.getElem_toArray, List.getElem_cons_zero, List.getElem_cons_succ, Act.put, List.setIfInBounds_toArray, List.set_cons_zero, List.set_cons_succ])
      refine hK.out _ _ hHeld (fun hHeld => ?_)
      clear hK K
      (refine wpAnyH_take (i := 3) (v := ?_) rfl (by kernel_rfl) (by kernel_rfl) (by kernel_rfl) (fun _ _ _ h => h) (Or.inl ⟨by rfl, ?_⟩) hHeld ?_; rotate_left; (· (intro w' hSw; go_simp; try with_reducible rfl)); (try simp only [List.getElem_toArray, List.getElem_cons_zero, List.getElem_cons_succ, Act.put, List.setIfInBounds_toArray, List.set_cons_zero, List.set_cons_succ]))
      (refine wpAnyH_ready (rs := [6]) (by kernel_rfl) (by simp) ?_; refine AllReadyH.cons (o := _) rfl (fun K hK => ?_) AllReadyH.nil; (simp only [List.getElem_toArray, List.getElem_cons_zero, List.getElem_cons_succ, Region.wanted, if_true]))
      go_simp
      refine (HM.out _).mono ?_
      rintro e w' ⟨rfl, rfl⟩
      dsimp only
      (try simp only [List.getElem_toArray, List.getElem_cons_zero, List.getElem_cons_succ, Act.put, List.setIfInBounds_toArray, List.set_cons_zero, List.set_cons_succ])
      refine hK.out _ _ hHeld (fun hHeld => ?_)
      clear hK K
      (refine wpAnyH_take (i := 7) (v := ?_) rfl (by kernel_rfl) (by kernel_rfl) (by kernel_rfl) (fun _ _ _ h => h) (Or.inl ⟨by rfl, ?_⟩) hHeld ?_; rotate_left; (· (intro w' hSw; go_simp; try with_reducible rfl)); (try simp only [List.getElem_toArray, List.getElem_cons_zero, List.getElem_cons_succ, Act.put, List.setIfInBounds_toArray, List.set_cons_zero, List.set_cons_succ])); (refine wpAnyH_take (i := 8) (v := ?_) rfl (by kernel_rfl) (by kernel_rfl) (by kernel_rfl) (fun _ _ _ h => h) (Or.inl ⟨by rfl, ?_⟩) hHeld ?_; rotate_left; (· (intro w' hSw; go_simp; try with_reducible rfl)); (try simp only [List.getElem_toArray, List.getElem_cons_zero, List.getElem_cons_succ, Act.put, List.setIfInBounds_toArray, List.set_cons_zero, List.set_cons_succ]))
      have S0 := hHeld.1.choose_spec
      have S1 := S0.putAll (frac a b) lf
      have S2 := hHeld.2.puts (b := w.heap.size) (Nat.le_refl _) 0 (ints (frac a b))
      clear GZ GB
      (refine wpAnyH_ready (rs := [9]) (by kernel_rfl) (by simp) ?_; refine AllReadyH.cons (o := _) rfl (fun K hK => ?_) AllReadyH.nil; (simp only [List.getElem_toArray, List.getElem_cons_zero, List.getElem_cons_succ, Region.wanted, if_true]); refine wp_store_mid _ _ _ rfl _ _ (ints (frac a b)).toArray rfl rfl (by simpa [li] using S0.there) (by simpa [li] using hi2) (all_oneCell_toArray (ints_one _)) ?_; (try simp only [List.getElem_toArray, List.getElem_cons_zero, List.getElem_cons_succ, Act.put, List.setIfInBounds_toArray, List.set_cons_zero, List.set_cons_succ, List.toList_toArray]); refine hK.out _ _ (⟨⟨_, S1⟩, S2⟩) (fun hHeld => ?_); clear hK K)
      refine wpAnyH_done (by kernel_rfl) ?_ _
      clear hHeld
      go_wp2_with fail
      exact bodyPost_ret (res_has rfl _ _ w.heap.size (frac a b) 2 _ rfl S1 Try.underlying33 rfl (by kernel_rfl)) rfl ⟨rfl, S2⟩
    · have hm : Int.tmod (p : Int) (q : Int) = ((p % q : Nat) : Int) := rfl
      have q0 : ((q : Int) == 0) = false := by simp; omega
      have q1 : decide ((0 : Int) < (q : Int)) = true := by simp; omega
      have hl := Nat.mod_lt p (show 0 < q by omega)
      have HG2 := Lib.hid (show Nat.gcd q (p % q) = g by rw [gcd_round p q h0]; exact HG.out)
      have HL := Lib.hid hl
      have hr : p % q ≤ 4611686018427387904 := by omega
      have w3 : IntKind.i64.wrap ((p % q : Nat) : Int) = ((p % q : Nat) : Int) := IntWalk.i64_in _ (by omega)
      clear hl
      generalize p % q = r at *
      go_wp2_with fail
      go_quiet (fail)
      have GZ2 := GZ.drewN nq
      have GB2 := Lib.hid (GB.out.drewN nq)
      go_wp2_with fail
      go_roundw
      case rel => exact ⟨q, r, rfl, rfl, hq, hr, HG2, GZ2, GB2⟩
      case measure => have := HL.out; simp [intOf]; omega
end Go.Proofs.Ytemiljokdedidac.base
end

section
namespace Go.Proofs.Ytemiljokdedidac.base
open Go.ChangeShapes Go.WideShapes Go.ChangeAt Go.RowKit
set_option linter.unusedVariables false
set_option linter.unusedSimpArgs false

theorem plUp_max (s : List Int) : ∀ c, plUp (s.map fun x => max x 0) c = plUp s c
  | 0 => rfl
  | c + 1 => by
    rw [plUp, plUp, plUp_max s c]
    congr 1
    rw [List.getD_eq_getElem?_getD, List.getElem?_map, List.getD_eq_getElem?_getD]
    cases s[c]? with
    | none => rfl
    | some x => simp; omega
theorem mulUp_max (s : List Int) : ∀ c, mulUp (s.map fun x => max x 0) c = mulUp s c
  | 0 => rfl
  | c + 1 => by
    rw [mulUp, mulUp, mulUp_max s c, plUp_max]
    congr 2
    rw [List.getD_eq_getElem?_getD, List.getElem?_map, List.getD_eq_getElem?_getD]
    cases s[c]? with
    | none => rfl
    | some x => simp; omega
theorem mulUp_bound (s : List Int) (h6 : s.length = 6) (hp : plUp s 6 ≤ 18) (c : Nat) (hc : c ≤ 6) : mulUp s c ≤ 101559956668416 := by
  have hl : (s.map fun x => max x 0).length = 6 := by rw [List.length_map]; exact h6
  have hn : ∀ j, j < 6 → 0 ≤ (s.map fun x => max x 0).getD j 0 := fun j hj => by
    rw [List.getD_eq_getElem?_getD, List.getElem?_map, List.getElem?_eq_getElem (by omega)]; simp; omega
  have h1 := ordA_le (plUp s 6) _ hl hn (plUp_max s 6)
  rw [ordA_of hn, mulUp_max] at h1
  have h2 := mulUp_le s hc
  have h3 : 6 ^ plUp s 6 ≤ 6 ^ 18 := Nat.pow_le_pow_right (by omega) hp
  have h4 : (6 : Nat) ^ 18 = 101559956668416 := by decide
  omega
theorem plUp_le (s : List Int) {a b : Nat} (h : a ≤ b) : plUp s a ≤ plUp s b := by
  induction b with
  | zero => obtain rfl : a = 0 := by omega
            exact Nat.le_refl _
  | succ b ih =>
    by_cases e : a = b + 1
    · subst e; exact Nat.le_refl _
    · have := ih (by omega)
      rw [plUp]; omega
/-- One layer more: what the machine reckons. -/
theorem mul_step (s : List Int) (h6 : s.length = 6) (hp : plUp s 6 ≤ 18) (c k q : Nat) (hc : c < 6) (hk : s.getD c 0 = (k : Int)) (hq : q < k) :
    ∃ X Z Y pl : Nat, X = mulUp s c * bin (plUp s c) q ∧ Y = mulUp s c * bin (plUp s c) (q + 1) ∧ pl = plUp s c + q ∧ pl + 1 ≤ 18
      ∧ IntKind.i64.wrap ((X : Int) * ((pl : Int) + 1)) = (Z : Int) ∧ Int.tdiv (Z : Int) ((q : Int) + 1) = (Y : Int) ∧ IntKind.i64.wrap (Y : Int) = (Y : Int) := by
  have hb : mulUp s c * bin (plUp s c) (q + 1) ≤ 101559956668416 := by
    have h1 := mulUp_bound s h6 hp (c + 1) (by omega)
    rw [mulUp, hk, Int.toNat_natCast] at h1
    have h2 := bin_le (plUp s c) (show q + 1 ≤ k by omega)
    exact Nat.le_trans (Nat.mul_le_mul_left _ h2) h1
  have hpl : plUp s c + q + 1 ≤ 18 := by
    have := plUp_le s (show c + 1 ≤ 6 by omega)
    rw [plUp, hk, Int.toNat_natCast] at this
    omega
  have hs := bin_step (plUp s c) q
  have hz : mulUp s c * bin (plUp s c) q * (plUp s c + q + 1) = mulUp s c * bin (plUp s c) (q + 1) * (q + 1) := by
    rw [Nat.mul_assoc, hs, Nat.mul_assoc]
  have hz2 : mulUp s c * bin (plUp s c) q * (plUp s c + q + 1) ≤ 101559956668416 * 18 := by
    rw [hz]; exact Nat.mul_le_mul hb (by omega)
  refine ⟨_, mulUp s c * bin (plUp s c) q * (plUp s c + q + 1), _, _, rfl, rfl, rfl, hpl, ?_, ?_, ?_⟩
  · rw [show ((mulUp s c * bin (plUp s c) q : Nat) : Int) * (((plUp s c + q : Nat) : Int) + 1) = ((mulUp s c * bin (plUp s c) q * (plUp s c + q + 1) : Nat) : Int) by rw [Int.natCast_mul _ (plUp s c + q + 1)]; rfl]
    exact IntWalk.i64_in _ (by omega)
  · have e : ((q : Int) + 1) = ((q + 1 : Nat) : Int) := rfl
    rw [hz, e]
    show (((mulUp s c * bin (plUp s c) (q + 1) * (q + 1)) / (q + 1) : Nat) : Int) = _
    rw [Nat.mul_div_cancel _ (by omega)]
  · exact IntWalk.i64_in _ (by omega)

theorem without_any (s : List Int) (c : Nat) (w : World) (h6 : s.length = 6) (hc : c < 6) (hb : -1000 ≤ s.getD c 0 ∧ s.getD c 0 ≤ 1000) :
    Calls Try.prog 111 #[row s, .int .i64 c] w fun e w' => e = .returned (row (less1 s c)) ∧ Kept w w' := by
  have H := ((Has.box w 104 h6 (by omega)).alloc (.cells #[.int .i64 0, .int .i64 0, .int .i64 0, .int .i64 0, .int .i64 0, .int .i64 0] 104))
  have Z := (Has.zero6 (w.alloc (.cells (ints s).toArray 104)) 104).at (size1 _ _)
  have HB := Lib.hid (((kept_refl w).alloc (.cells (ints s).toArray 104)).alloc (.cells #[.int .i64 0, .int .i64 0, .int .i64 0, .int .i64 0, .int .i64 0, .int .i64 0] 104))
  rw [row_ints]
  go_enter Try.func111, Try.ntmps111
  go_upto_region 1 with fail
  generalize ((w.alloc (.cells (ints s).toArray 104)).alloc (.cells #[.int .i64 0, .int .i64 0, .int .i64 0, .int .i64 0, .int .i64 0, .int .i64 0] 104)) = W at *
  have c0 := H.cell c hc
  have f0 := H.free c hc
  have H2 := H.set c (s.getD c 0 - 1) hc
  have Z2 := Z.setOther (b' := w.heap.size) c (.int .i64 (s.getD c 0 - 1)) (by omega)
  have HB2 := Lib.hid (HB.out.set (b := w.heap.size) (by omega) c (.int .i64 (s.getD c 0 - 1)))
  have E : less1 s c = s.set c (s.getD c 0 - 1) := rfl
  rw [← E] at H2
  have l6 : (less1 s c).length = 6 := by rw [less1_len]; exact h6
  have S1 := Lib.hid (Z2.putAll (less1 s c) l6)
  have S2 := Lib.hid (HB2.out.puts (b := w.heap.size + 1) (by omega) 0 (ints (less1 s c)))
  have hci : (c : Int) < 6 := by omega
  obtain ⟨b0, b1⟩ := hb
  clear E HB HB2 H Z
  generalize s.getD c 0 = x at *
  go_wp2_with (first | (refine load_has rfl 104 _ rfl _ rfl ?_ 6 ?_ _ Try.underlying104 rfl ?_ ?_; rotate_left; (· (repeat (first | (with_reducible assumption) | ((with_reducible refine Has.box _ _ ?_ ?_) <;> (first | assumption | decide)) | (with_reducible refine Has.alloc ?_ _) | ((with_reducible refine Has.putOther ?_ _ _ ?_); rotate_left; omega; skip) | ((with_reducible refine Has.below ?_ ?_); rotate_left; assumption)))); (· kernel_rfl)) | (refine store_at rfl 104 _ _ rfl _ _ rfl rfl ?_ 6 ?_ ?_ ?_ ?_; rotate_left; (· (repeat (first | (with_reducible assumption) | ((with_reducible refine Has.box _ _ ?_ ?_) <;> (first | assumption | decide)) | (with_reducible refine Has.alloc ?_ _) | ((with_reducible refine Has.putOther ?_ _ _ ?_); rotate_left; omega; skip) | ((with_reducible refine Has.below ?_ ?_); rotate_left; assumption)))); (· (first | assumption | rfl)); (· kernel_rfl)))
  exact bodyPost_ret (res_has rfl _ _ (w.heap.size + 1) (less1 s c) 6 _ rfl S1.out Try.underlying104 rfl (by kernel_rfl)) rfl ⟨rfl, S2.out⟩

theorem sumUp_in (s : List Int) (hb : ∀ j, j < 6 → -1000 ≤ s.getD j 0 ∧ s.getD j 0 ≤ 1000) : ∀ c : Nat, c ≤ 6 → -1000 * (c : Int) ≤ sumUp s c ∧ sumUp s c ≤ 1000 * (c : Int)
  | 0, _ => by simp [sumUp]
  | c + 1, hc => by
    have := sumUp_in s hb c (by omega)
    have := hb c (by omega)
    rw [sumUp]; omega

theorem size_any (s : List Int) (w : World) (h6 : s.length = 6) (hb : ∀ j, j < 6 → -1000 ≤ s.getD j 0 ∧ s.getD j 0 ≤ 1000) :
    Calls Try.prog 123 #[row s] w fun e w' => e = .returned (.int .i64 (sumUp s 6)) ∧ Kept w w' := by
  have H := Has.box w 104 h6 (by omega)
  have HB := Lib.hid ((kept_refl w).alloc (.cells (ints s).toArray 104))
  have SI := Lib.hid (sumUp_in s hb)
  have BB := Lib.hid hb
  have gi := index6v 104 Try.underlying104 s h6
  have HG := Lib.hid gi
  rw [row_ints]
  clear gi hb
  go_enter Try.func123, Try.ntmps123
  go_wp2_with (refine load_has rfl 104 _ rfl _ rfl ?_ 6 ?_ _ Try.underlying104 rfl ?_ ?_; rotate_left; (· (repeat (first | (with_reducible assumption) | ((with_reducible refine Has.box _ _ ?_ ?_) <;> (first | assumption | decide)) | (with_reducible refine Has.alloc ?_ _) | ((with_reducible refine Has.putOther ?_ _ _ ?_); rotate_left; omega; skip) | ((with_reducible refine Has.below ?_ ?_); rotate_left; assumption)))); (· kernel_rfl))
  clear H
  generalize w.alloc (.cells (ints s).toArray 104) = W at *
  go_loopw [3, 7] (fun m i wr => ∃ c : Nat, c ≤ 6 ∧ i = .int .i64 c ∧ m = .int .i64 (sumUp s c) ∧ W = wr) (fun _ z _ => 6 - (intOf z).toNat)
  case atStart => exact ⟨0, by omega, rfl, rfl, rfl⟩
  case round =>
    obtain ⟨c, hc, rfl, rfl, rfl⟩ := hrel
    by_cases hlt : c < 6
    · have hci : (c : Int) < 6 := by omega
      have g0 := HG.out c hlt
      have si := SI.out c (by omega)
      have bb := BB.out c hlt
      have E : Hid (sumUp s (c + 1) = sumUp s c + s.getD c 0) := Lib.hid rfl
      generalize s.getD c 0 = x at *
      generalize sumUp s c = y at *
      obtain ⟨i0, i1⟩ := si
      obtain ⟨x0, x1⟩ := bb
      have y0 : -6000 ≤ y := by omega
      have y1 : y ≤ 6000 := by omega
      go_wp2_with fail
      go_roundw
      case rel => exact ⟨c + 1, by omega, by go_num, by rw [E.out], by trivial⟩
      case measure => simp [intOf]; omega
    · obtain rfl : c = 6 := by omega
      go_wp2_with fail
      go_ret
      exact ⟨rfl, HB.out⟩

/-- One layer more, for each: what the machine reckons. -/
def StepOk (s : List Int) : Prop := ∀ c k q : Nat, c < 6 → s.getD c 0 = (k : Int) → q < k →
    ∃ X Z Y pl : Nat, X = mulUp s c * bin (plUp s c) q ∧ Y = mulUp s c * bin (plUp s c) (q + 1) ∧ pl = plUp s c + q ∧ pl + 1 ≤ 24
      ∧ IntKind.i64.wrap ((X : Int) * ((pl : Int) + 1)) = (Z : Int) ∧ Int.tdiv (Z : Int) ((q : Int) + 1) = (Y : Int) ∧ IntKind.i64.wrap (Y : Int) = (Y : Int)
theorem step18 (s : List Int) (h6 : s.length = 6) (hp : plUp s 6 ≤ 18) : StepOk s := fun c k q hc hk hq => by
  obtain ⟨X, Z, Y, pl, e1, e2, e3, h, w1, w2, w3⟩ := mul_step s h6 hp c k q hc hk hq
  exact ⟨X, Z, Y, pl, e1, e2, e3, by omega, w1, w2, w3⟩
set_option maxHeartbeats 400000 in
theorem orders_core (s : List Int) (w : World) (h6 : s.length = 6) (hs : StepOk s) (hp : plUp s 6 ≤ 24) :
    Calls Try.prog 81 #[row s] w fun e w' => e = .returned (.int .i64 (ordA s : Nat)) ∧ Kept w w' := by
  have H := Has.box w 104 h6 (by omega)
  have HB := Lib.hid ((kept_refl w).alloc (.cells (ints s).toArray 104))
  have gi := index6v 104 Try.underlying104 s h6
  have HG := Lib.hid gi
  have HL := Lib.hid h6
  have HP := Lib.hid hp
  have HS := Lib.hid hs
  rw [row_ints]
  clear gi h6 hp hs
  go_enter Try.func81, Try.ntmps81
  go_wp2_with (refine load_has rfl 104 _ rfl _ rfl ?_ 6 ?_ _ Try.underlying104 rfl ?_ ?_; rotate_left; (· (repeat (first | (with_reducible assumption) | ((with_reducible refine Has.box _ _ ?_ ?_) <;> (first | assumption | decide)) | (with_reducible refine Has.alloc ?_ _) | ((with_reducible refine Has.putOther ?_ _ _ ?_); rotate_left; omega; skip) | ((with_reducible refine Has.below ?_ ?_); rotate_left; assumption)))); (· kernel_rfl))
  clear H
  generalize w.alloc (.cells (ints s).toArray 104) = W at *
  go_loopg [3, 4, 9] 6 (fun gk m n i wr => ∃ c : Nat, gk = 6 - c ∧ c ≤ 6 ∧ i = .int .i64 c ∧ m = .int .i64 (mulUp s c : Nat) ∧ n = .int .i64 (plUp s c : Nat) ∧ Hid (∀ j, j < c → 0 ≤ s.getD j 0) ∧ W = wr)
  case atStart => exact ⟨0, rfl, by omega, rfl, rfl, rfl, Lib.hid (fun j hj => by omega), rfl⟩
  case round =>
    obtain ⟨c, rfl, hc, rfl, rfl, rfl, NN, rfl⟩ := hrel
    by_cases hlt : c < 6
    · have hci : (c : Int) < 6 := by omega
      have g0 := HG.out c hlt
      by_cases hneg : s.getD c 0 < 0
      · have E := Lib.hid (ordA_not hlt hneg)
        have dn : decide (s.getD c 0 < 0) = true := decide_eq_true hneg
        generalize s.getD c 0 = x at *
        go_wp2_with fail
        go_ret
        exact ⟨by rw [E.out]; rfl, HB.out⟩
      · obtain ⟨k, hk⟩ : ∃ k : Nat, s.getD c 0 = (k : Int) := ⟨(s.getD c 0).toNat, by omega⟩
        have ST := Lib.hid (fun q hq => HS.out c k q hlt hk hq)
        have E0 := Lib.hid (show mulUp s c * bin (plUp s c) 0 = mulUp s c by rw [bin_zero, Nat.mul_one])
        have E1 := Lib.hid (show mulUp s (c + 1) = mulUp s c * bin (plUp s c) k by rw [mulUp, hk, Int.toNat_natCast])
        have E2 := Lib.hid (show plUp s (c + 1) = plUp s c + k by rw [plUp, hk, Int.toNat_natCast])
        have N2 := Lib.hid (show ∀ j, j < c + 1 → 0 ≤ s.getD j 0 from fun j hj => by
          by_cases e : j = c
          · subst e; omega
          · exact NN.out j (by omega))
        rw [hk] at g0
        clear hneg hk
        go_wp2_with fail
        go_loopg [3, 4, 15] k (fun gk m n i wr => ∃ q : Nat, gk = k - q ∧ q ≤ k ∧ i = .int .i64 q ∧ m = .int .i64 (mulUp s c * bin (plUp s c) q : Nat) ∧ n = .int .i64 (plUp s c + q : Nat) ∧ W = wr)
        case atStart => exact ⟨0, rfl, by omega, rfl, by rw [E0.out], rfl, rfl⟩
        case round =>
          obtain ⟨q, rfl, hq, rfl, rfl, rfl, rfl⟩ := hrel
          by_cases hqk : q < k
          · have hqi : (q : Int) < (k : Int) := by omega
            obtain ⟨X, Z, Y, pl, e1, e2, e3, hpl, w1, w2, w3⟩ := ST.out q hqk
            rw [← e1, ← e3]
            have E4 := Lib.hid e2
            have E5 := Lib.hid e3
            have qk : q < 1000 := by omega
            clear e1 e2 e3
            have q1 : ((q : Int) + 1 == 0) = false := by simp; omega
            have HQ := Lib.hid (show q + 1 ≤ k from hqk)
            go_wp2_with fail
            go_roundg (k - (q + 1))
            case rel => exact ⟨q + 1, rfl, HQ.out, by go_num, by rw [← E4.out], by rw [E5.out]; go_num, rfl⟩
            case measure => omega
          · obtain rfl : q = k := by omega
            rw [← E1.out, ← E2.out]
            go_wp2_with fail
            go_roundg (6 - (c + 1))
            case rel => exact ⟨c + 1, rfl, by omega, by go_num, rfl, rfl, N2, rfl⟩
            case measure => omega
    · obtain rfl : c = 6 := by omega
      have E := Lib.hid (ordA_of NN.out)
      go_wp2_with fail
      go_ret
      exact ⟨by rw [E.out]; rfl, HB.out⟩
theorem orders_any (s : List Int) (w : World) (h6 : s.length = 6) (hp : plUp s 6 ≤ 18) :
    Calls Try.prog 81 #[row s] w fun e w' => e = .returned (.int .i64 (ordA s : Nat)) ∧ Kept w w' :=
  orders_core s w h6 (step18 s h6 hp) (by omega)
end Go.Proofs.Ytemiljokdedidac.base
end
