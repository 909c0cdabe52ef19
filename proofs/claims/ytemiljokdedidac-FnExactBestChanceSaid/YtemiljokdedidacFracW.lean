/-
  Fractions in lowest terms, on both sides, walked.
-/
import Derived.Test.YtemiljokdedidacMulMZ
import Derived.Test.YtemiljokdedidacVw
import Derived.Deep.RegionHeld3
namespace Go.Proofs.Ytemiljokdedidac.base
open Go.ChangeShapes Go.WideShapes Go.ChangeAt Go.RowKit
set_option linter.unusedVariables false
set_option linter.unusedSimpArgs false

def z2 : List Int := [0, 0]
theorem Has.zero2v (w : World) (T : TypeId) : Has (w.alloc (.cells #[.int .i64 0, .int .i64 0] T)) w.heap.size z2 2 := Has.box (ns := z2) w T rfl (by decide)
theorem build2z (w : World) : (Instr.build 33 #[]).run Try.prog w = .ok (.agg (ints z2).toArray) w := by kernel_rfl

set_option maxHeartbeats 400000 in
theorem eqIntA2v (t : List Int) (w : World) (h2 : t.length = 2) :
    Calls Try.prog 18 #[.agg (ints t).toArray, .agg (ints t).toArray] w fun e w' => e = .returned (.bool true) ∧ Kept w w' := by
  have HB := Lib.hid (((kept_refl w).alloc (.cells (ints t).toArray 33)).alloc (.cells (ints t).toArray 33))
  have H1 := (Has.box w 33 h2 (by omega)).alloc (.cells (ints t).toArray 33)
  have H2 := (Has.box (w.alloc (.cells (ints t).toArray 33)) 33 h2 (by omega)).at (size1 _ _)
  go_enter Try.func18, Try.ntmps18
  go_wp2_with fail
  have HL := Lib.hid h2
  clear h2
  generalize ((w.alloc (.cells (ints t).toArray 33)).alloc (.cells (ints t).toArray 33)) = W at *
  go_loopw [5] (fun z wr => ∃ k : Nat, k ≤ 2 ∧ z = .int .i64 k ∧ Has wr w.heap.size t 2 ∧ Has wr (w.heap.size + 1) t 2 ∧ Hid (Kept w wr)) (fun z _ => 2 - (intOf z).toNat)
  case atStart => exact ⟨0, by omega, rfl, H1, H2, HB⟩
  case round =>
    obtain ⟨k, hk, rfl, G1, G2, GB⟩ := hrel
    by_cases h : k < 2
    · have c1 := G1.cell k h
      have c2 := G2.cell k h
      have hki : (k : Int) < 2 := by omega
      have hk0 : (0 : Int) ≤ (k : Int) := by omega
      generalize t.getD k 0 = x at *
      go_wp2_with fail
      go_quiet (fail)
      have G3 := G1.drewN nq
      have G4 := G2.drewN nq
      have GB2 := Lib.hid (GB.out.drewN nq)
      go_wp2_with fail
      go_roundw
      case rel => exact ⟨k + 1, by omega, by go_num, G3, G4, GB2⟩
      case measure => simp [intOf]; omega
    · go_wp2_with fail
      go_ret
      exact ⟨rfl, GB.out⟩

theorem fMost_any (a b : Int) (w : World) :
    Calls Try.prog 34 #[.int .i64 a, .int .i64 b] w fun e w' => e = .returned (.int .i64 (max a b)) ∧ w' = w := by
  by_cases h : b < a
  · have e : max a b = a := by omega
    rw [e]
    clear e
    go_enter Try.func34, Try.ntmps34
    go_wp2_with fail
    go_ret
    exact ⟨rfl, rfl⟩
  · have e : max a b = b := by omega
    have q : decide (b < a) = false := by simpa using h
    rw [e]
    clear e h
    go_enter Try.func34, Try.ntmps34
    go_wp2_with fail
    go_ret
    exact ⟨rfl, rfl⟩
theorem fLeast_any (a b : Int) (w : World) :
    Calls Try.prog 33 #[.int .i64 a, .int .i64 b] w fun e w' => e = .returned (.int .i64 (min a b)) ∧ w' = w := by
  by_cases h : a < b
  · have e : min a b = a := by omega
    rw [e]
    clear e
    go_enter Try.func33, Try.ntmps33
    go_wp2_with fail
    go_ret
    exact ⟨rfl, rfl⟩
  · have e : min a b = b := by omega
    have q : decide (a < b) = false := by simpa using h
    rw [e]
    clear e h
    go_enter Try.func33, Try.ntmps33
    go_wp2_with fail
    go_ret
    exact ⟨rfl, rfl⟩

/-- A part of a whole, in lowest terms. -/
def frac (a b : Nat) : List Int := [(cutN a b : Int), (cutD a b : Int)]
theorem frac_len (a b : Nat) : (frac a b).length = 2 := rfl
theorem frac_ints (a b : Nat) : (Value.agg #[.int .i64 (cutN a b : Int), .int .i64 (cutD a b : Int)]) = .agg (ints (frac a b)).toArray := rfl
/-- What the machine reckons at the end. -/
theorem frac_div (a b : Nat) (hb : 0 < b) (ha : a ≤ 4611686018427387904) (hb2 : b ≤ 4611686018427387904) :
    ∃ g : Nat, 0 < g ∧ g = Nat.gcd b a ∧ g ≤ b ∧ Int.tdiv (a : Int) (g : Int) = (cutN a b : Int) ∧ Int.tdiv (b : Int) (g : Int) = (cutD a b : Int) ∧ IntKind.i64.wrap (cutN a b : Int) = (cutN a b : Int) ∧ IntKind.i64.wrap (cutD a b : Int) = (cutD a b : Int) := by
  have e : Nat.gcd b a = Nat.gcd a b := Nat.gcd_comm b a
  have p := cut_gcd_pos a b hb
  have h1 := cutN_le a b
  have h2 := cutD_le a b
  refine ⟨Nat.gcd b a, by rw [e]; exact p, rfl, Nat.le_of_dvd hb (Nat.gcd_dvd_left b a), ?_, ?_, IntWalk.i64_in _ (by omega), IntWalk.i64_in _ (by omega)⟩
  · rw [e]; rfl
  · rw [e]; rfl

set_option maxHeartbeats 400000 in
theorem comDiv_any (a b : Nat) (w : World) (ha : a ≤ 4611686018427387904) (hb : b ≤ 4611686018427387904) :
    Calls Try.prog 113 #[.int .i64 a, .int .i64 b] w fun e w' => e = .returned (.int .i64 (Nat.gcd a b : Nat)) ∧ Kept w w' := by
  have HB := Lib.hid (kept_refl w)
  obtain ⟨g, eg⟩ : ∃ g, Nat.gcd a b = g := ⟨_, rfl⟩
  have EG := Lib.hid eg
  rw [eg]
  clear eg
  go_enter Try.func113, Try.ntmps113
  go_wp2_with fail
  go_loopw [0, 1] (fun x y wr => ∃ p q : Nat, x = .int .i64 p ∧ y = .int .i64 q ∧ p ≤ 4611686018427387904 ∧ q ≤ 4611686018427387904 ∧ Hid (Nat.gcd p q = g) ∧ Hid (Kept w wr)) (fun _ y _ => (intOf y).toNat)
  case atStart => exact ⟨a, b, rfl, rfl, ha, hb, EG, HB⟩
  case round =>
    obtain ⟨p, q, rfl, rfl, hp, hq, HG, GB⟩ := hrel
    by_cases h0 : q = 0
    · subst h0
      have e : p = g := by have := HG.out; rwa [Nat.gcd_zero_right] at this
      subst e
      clear HG EG
      go_wp2_with fail
      go_ret
      exact ⟨rfl, GB.out⟩
    · have hm : Int.tmod (p : Int) (q : Int) = ((p % q : Nat) : Int) := rfl
      have q0 : ((q : Int) == 0) = false := by simp; omega
      have q1 : ((q : Int) != 0) = true := by simp; omega
      have hl := Nat.mod_lt p (show 0 < q by omega)
      have HG2 := Lib.hid (show Nat.gcd q (p % q) = g by rw [gcd_round p q h0]; exact HG.out)
      have HL := Lib.hid hl
      have hr : p % q ≤ 4611686018427387904 := by omega
      have w3 : IntKind.i64.wrap ((p % q : Nat) : Int) = ((p % q : Nat) : Int) := IntWalk.i64_in _ (by omega)
      clear hl
      generalize p % q = r at *
      go_wp2_with fail
      go_quiet (fail)
      have GB2 := Lib.hid (GB.out.drewN nq)
      go_wp2_with fail
      go_roundw
      case rel => exact ⟨q, r, rfl, rfl, hq, hr, HG2, GB2⟩
      case measure => have := HL.out; simp [intOf]; omega

set_option maxHeartbeats 800000 in
set_option maxRecDepth 100000 in
theorem fraction_any (a b : Nat) (w : World) (hb : 0 < b) (ha : a ≤ 4611686018427387904) (hb2 : b ≤ 4611686018427387904) :
    Calls Try.prog 90 #[.int .i64 a, .int .i64 b] w fun e w' => e = .returned (.agg (ints (frac a b)).toArray) ∧ Kept w w' := by
  obtain ⟨g, g0, eg, gb, d1, d2, w1, w2⟩ := frac_div a b hb ha hb2
  rw [Nat.gcd_comm] at eg
  have Z := Has.zero2v w 33
  have HB := Lib.hid ((kept_refl w).alloc (.cells #[.int .i64 0, .int .i64 0] 33))
  have KG := Lib.hid (fun W => comDiv_any a b W ha hb2)
  rw [← eg] at KG
  have p0 : ((g : Int) == 0) = false := by simp; omega
  have pn : ¬ g = 0 := by omega
  have lf := frac_len a b
  have li : (ints (frac a b)).length = 2 := rfl
  have hi2 : (Try.prog.info? 33).map (·.size) = some (ints (frac a b)).length := by rw [li]; kernel_rfl
  clear eg
  go_enter Try.func90, Try.ntmps90
  go_wp2_with fail
  refine (KG.out _).mono ?_
  rintro e w3 ⟨rfl, b3⟩
  have Z3 := Z.below b3
  have HB3 := Lib.hid (HB.out.call b3)
  clear Z HB b3 KG
  go_wp2_with fail
  refine wp_region_held_drew (S := fun w' => True) (by kernel_rfl) trivial (fun hHeld => ?_)
  have S0 := Z3.drew
  have SB := HB3.out.drewN 1
  change Kept w (World.drew w3) at SB
  generalize World.drew w3 = WD at *
  have S1 := S0.putAll (frac a b) lf
  have S2 := SB.puts (b := w.heap.size) (Nat.le_refl _) 0 (ints (frac a b))
  (refine wpAnyH_take (i := 0) (v := ?_) rfl (by kernel_rfl) (by kernel_rfl) (by kernel_rfl) (fun _ _ _ h => h) (Or.inl ⟨by rfl, ?_⟩) hHeld ?_; rotate_left; (· (intro w' hSw; go_simp; try with_reducible rfl)); (try simp only [List.getElem_toArray, List.getElem_cons_zero, List.getElem_cons_succ, Act.put, List.setIfInBounds_toArray, List.set_cons_zero, List.set_cons_succ])); (refine wpAnyH_take (i := 1) (v := ?_) rfl (by kernel_rfl) (by kernel_rfl) (by kernel_rfl) (fun _ _ _ h => h) (Or.inl ⟨by rfl, ?_⟩) hHeld ?_; rotate_left; (· (intro w' hSw; go_simp; try with_reducible rfl)); (try simp only [List.getElem_toArray, List.getElem_cons_zero, List.getElem_cons_succ, Act.put, List.setIfInBounds_toArray, List.set_cons_zero, List.set_cons_succ])); (refine wpAnyH_take (i := 2) (v := ?_) rfl (by kernel_rfl) (by kernel_rfl) (by kernel_rfl) (fun _ _ _ h => h) (Or.inl ⟨by rfl, ?_⟩) hHeld ?_; rotate_left; (· (intro w' hSw; go_simp; try with_reducible rfl)); (try simp only [List.getElem_toArray, List.getElem_cons_zero, List.getElem_cons_succ, Act.put, List.setIfInBounds_toArray, List.set_cons_zero, List.set_cons_succ])); (refine wpAnyH_take (i := 3) (v := ?_) rfl (by kernel_rfl) (by kernel_rfl) (by kernel_rfl) (fun _ _ _ h => h) (Or.inl ⟨by rfl, ?_⟩) hHeld ?_; rotate_left; (· (intro w' hSw; go_simp; try with_reducible rfl)); (try simp only [List.getElem_toArray, List.getElem_cons_zero, List.getElem_cons_succ, Act.put, List.setIfInBounds_toArray, List.set_cons_zero, List.set_cons_succ])); (refine wpAnyH_take (i := 4) (v := ?_) rfl (by kernel_rfl) (by kernel_rfl) (by kernel_rfl) (fun _ _ _ h => h) (Or.inl ⟨by rfl, ?_⟩) hHeld ?_; rotate_left; (· (intro w' hSw; go_simp; try with_reducible rfl)); (try simp only [List.getElem_toArray, List.getElem_cons_zero, List.getElem_cons_succ, Act.put, List.setIfInBounds_toArray, List.set_cons_zero, List.set_cons_succ])); (refine wpAnyH_take (i := 5) (v := ?_) rfl (by kernel_rfl) (by kernel_rfl) (by kernel_rfl) (fun _ _ _ h => h) (Or.inl ⟨by rfl, ?_⟩) hHeld ?_; rotate_left; (· (intro w' hSw; go_simp; try with_reducible rfl)); (try simp only [List.getElem_toArray, List.getElem_cons_zero, List.getElem_cons_succ, Act.put, List.setIfInBounds_toArray, List.set_cons_zero, List.set_cons_succ])); (refine wpAnyH_take (i := 6) (v := ?_) rfl (by kernel_rfl) (by kernel_rfl) (by kernel_rfl) (fun _ _ _ h => h) (Or.inl ⟨by rfl, ?_⟩) hHeld ?_; rotate_left; (· (intro w' hSw; go_simp; try with_reducible rfl)); (try simp only [List.getElem_toArray, List.getElem_cons_zero, List.getElem_cons_succ, Act.put, List.setIfInBounds_toArray, List.set_cons_zero, List.set_cons_succ]))
  (refine wpAnyH_ready (rs := [7]) (by kernel_rfl) (by simp) ?_; refine AllReadyH.cons (o := _) rfl (fun K hK => ?_) AllReadyH.nil; (simp only [List.getElem_toArray, List.getElem_cons_zero, List.getElem_cons_succ, Region.wanted, if_true]); refine wp_store_mid _ _ _ rfl _ _ (ints (frac a b)).toArray rfl rfl (by simpa [li] using S0.there) (by simpa [li] using hi2) (all_oneCell_toArray (ints_one _)) ?_; (try simp only [List.getElem_toArray, List.getElem_cons_zero, List.getElem_cons_succ, Act.put, List.setIfInBounds_toArray, List.set_cons_zero, List.set_cons_succ, List.toList_toArray]); refine hK.out _ _ (trivial) (fun hHeld => ?_); clear hK K)
  refine wpAnyH_done (by kernel_rfl) ?_ _
  clear hHeld
  go_wp2_with fail
  exact bodyPost_ret (res_has rfl _ _ w.heap.size (frac a b) 2 _ rfl S1 Try.underlying33 rfl (by kernel_rfl)) rfl ⟨rfl, S2⟩

theorem Has.cellX {w : World} {b n k : Nat} {ns : List Int} {x : Int} (h : Has w b ns n) (hk : k < n) (hx : ns.getD k 0 = x) : w.cell? ⟨b, k, none⟩ = some (.int .i64 x) := by rw [h.cell k hk, hx]

set_option maxHeartbeats 800000 in
set_option maxRecDepth 100000 in
theorem l7Cut_any (a b : Nat) (w : World) (hb : 0 < b) (ha : a ≤ 4611686018427387904) (hb2 : b ≤ 4611686018427387904) :
    Calls Try.prog 44 #[.int .i64 a, .int .i64 b] w fun e w' => e = .returned (.agg (ints (frac a b)).toArray) ∧ Kept w w' := by
  obtain ⟨g, g0, eg, gb, d1, d2, w1, w2⟩ := frac_div a b hb ha hb2
  have D1 := Lib.hid d1
  have D2 := Lib.hid d2
  have EG := Lib.hid eg
  have Z := Has.zero2v w 33
  have HB := Lib.hid ((kept_refl w).alloc (.cells #[.int .i64 0, .int .i64 0] 33))
  clear d1 d2 eg
  go_enter Try.func44, Try.ntmps44
  go_wp2_with fail
  generalize w.alloc (.cells #[.int .i64 0, .int .i64 0] 33) = W at *
  go_loopw [5, 6] (fun x y wr => ∃ p q : Nat, x = .int .i64 p ∧ y = .int .i64 q ∧ p ≤ 4611686018427387904 ∧ q ≤ 4611686018427387904 ∧ Hid (Nat.gcd p q = g) ∧ Has wr w.heap.size z2 2 ∧ Hid (Kept w wr)) (fun _ y _ => (intOf y).toNat)
  case atStart => exact ⟨a, b, rfl, rfl, ha, hb2, Lib.hid (by rw [EG.out, Nat.gcd_comm]), Z, HB⟩
  case round =>
    obtain ⟨p, q, rfl, rfl, hp, hq, HG, GZ, GB⟩ := hrel
    by_cases h0 : q = 0
    · subst h0
      have e : p = g := by have := HG.out; rwa [Nat.gcd_zero_right] at this
      subst e
      have d1 := D1.out
      have d2 := D2.out
      have p0 : ((p : Int) == 0) = false := by simp; omega
      have pn : ¬ p = 0 := by omega
      have KM : ∀ W : World, Calls Try.prog 34 #[.int .i64 (p : Int), .int .i64 1] W fun e w' => e = .returned (.int .i64 (p : Int)) ∧ w' = W := fun W => by
        have := fMost_any (p : Int) 1 W
        rwa [show max (p : Int) 1 = (p : Int) by omega] at this
      have HM := Lib.hid KM
      clear HG D1 D2 KM
      have lf := frac_len a b
      have li : (ints (frac a b)).length = 2 := rfl
      have hi2 : (Try.prog.info? 33).map (·.size) = some (ints (frac a b)).length := by rw [li]; kernel_rfl
      go_wp2_with fail
      refine wp_region_held_drew (S := fun w' => (∃ zs, Has w' w.heap.size zs 2) ∧ Kept w w') (by kernel_rfl) ⟨⟨_, GZ.drew⟩, GB.out.drewN 1⟩ (fun hHeld => ?_)
      generalize World.drew wr = WD at *
      (refine wpAnyH_take (i := 0) (v := ?_) rfl (by kernel_rfl) (by kernel_rfl) (by kernel_rfl) (fun _ _ _ h => h) (Or.inl ⟨by rfl, ?_⟩) hHeld ?_; rotate_left; (· (intro w' hSw; go_simp; try with_reducible rfl)); (try simp only [List.getElem_toArray, List.getElem_cons_zero, List.getElem_cons_succ, Act.put, List.setIfInBounds_toArray, List.set_cons_zero, List.set_cons_succ])); (refine wpAnyH_take (i := 1) (v := ?_) rfl (by kernel_rfl) (by kernel_rfl) (by kernel_rfl) (fun _ _ _ h => h) (Or.inl ⟨by rfl, ?_⟩) hHeld ?_; rotate_left; (· (intro w' hSw; go_simp; try with_reducible rfl)); (try simp only [List.getElem_toArray, List.getElem_cons_zero, List.getElem_cons_succ, Act.put, List.setIfInBounds_toArray, List.set_cons_zero, List.set_cons_succ])); (refine wpAnyH_take (i := 4) (v := ?_) rfl (by kernel_rfl) (by kernel_rfl) (by kernel_rfl) (fun _ _ _ h => h) (Or.inl ⟨by rfl, ?_⟩) hHeld ?_; rotate_left; (· (intro w' hSw; go_simp; try with_reducible rfl)); (try simp only [List.getElem_toArray, List.getElem_cons_zero, List.getElem_cons_succ, Act.put, List.setIfInBounds_toArray, List.set_cons_zero, List.set_cons_succ])); (refine wpAnyH_take (i := 5) (v := ?_) rfl (by kernel_rfl) (by kernel_rfl) (by kernel_rfl) (fun _ _ _ h => h) (Or.inl ⟨by rfl, ?_⟩) hHeld ?_; rotate_left; (· (intro w' hSw; go_simp; try with_reducible rfl)); (try simp only [List.getElem_toArray, List.getElem_cons_zero, List.getElem_cons_succ, Act.put, List.setIfInBounds_toArray, List.set_cons_zero, List.set_cons_succ]))
      (refine wpAnyH_ready (rs := [2]) (by kernel_rfl) (by simp) ?_; refine AllReadyH.cons (o := _) rfl (fun K hK => ?_) AllReadyH.nil; (simp only [List.getElem_toArray, List.getElem_cons_zero, List.getElem_cons_succ, Region.wanted, if_true]))
      go_simp
      refine (HM.out _).mono ?_
      rintro e w' ⟨rfl, rfl⟩
      dsimp only
      (try simp only [List.getElem_toArray, List.getElem_cons_zero, List.getElem_cons_succ, Act.put, List.setIfInBounds_toArray, List.set_cons_zero, List.set_cons_succ])
      refine hK.out _ _ hHeld (fun hHeld => ?_)
      clear hK K
      (refine wpAnyH_take (i := 3) (v := ?_) rfl (by kernel_rfl) (by kernel_rfl) (by kernel_rfl) (fun _ _ _ h => h) (Or.inl ⟨by rfl, ?_⟩) hHeld ?_; rotate_left; (· (intro w' hSw; go_simp; try with_reducible rfl)); (try simp only [List.getElem_toArray, List.getElem_cons_zero, List.getElem_cons_succ, Act.put, List.setIfInBounds_toArray, List.set_cons_zero, List.set_cons_succ]))
      (refine wpAnyH_ready (rs := [6]) (by kernel_rfl) (by simp) ?_; refine AllReadyH.cons (o := _) rfl (fun K hK => ?_) AllReadyH.nil; (simp only [List.getElem_toArray, List.getElem_cons_zero, List.getElem_cons_succ, Region.wanted, if_true]))
      go_simp
      refine (HM.out _).mono ?_
      rintro e w' ⟨rfl, rfl⟩
      dsimp only
      (try simp only [List.getElem_toArray, List.getElem_cons_zero, List.getElem_cons_succ, Act.put, List.setIfInBounds_toArray, List.set_cons_zero, List.set_cons_succ])
      refine hK.out _ _ hHeld (fun hHeld => ?_)
      clear hK K
      (refine wpAnyH_take (i := 7) (v := ?_) rfl (by kernel_rfl) (by kernel_rfl) (by kernel_rfl) (fun _ _ _ h => h) (Or.inl ⟨by rfl, ?_⟩) hHeld ?_; rotate_left; (· (intro w' hSw; go_simp; try with_reducible rfl)); (try simp only [List.getElem_toArray, List.getElem_cons_zero, List.getElem_cons_succ, Act.put, List.setIfInBounds_toArray, List.set_cons_zero, List.set_cons_succ])); (refine wpAnyH_take (i := 8) (v := ?_) rfl (by kernel_rfl) (by kernel_rfl) (by kernel_rfl) (fun _ _ _ h => h) (Or.inl ⟨by rfl, ?_⟩) hHeld ?_; rotate_left; (· (intro w' hSw; go_simp; try with_reducible rfl)); (try simp only [List.getElem_toArray, List.getElem_cons_zero, List.getElem_cons_succ, Act.put, List.setIfInBounds_toArray, List.set_cons_zero, List.set_cons_succ]))
      have S0 := hHeld.1.choose_spec
      have S1 := S0.putAll (frac a b) lf
      have S2 := hHeld.2.puts (b := w.heap.size) (Nat.le_refl _) 0 (ints (frac a b))
      clear GZ GB
      (refine wpAnyH_ready (rs := [9]) (by kernel_rfl) (by simp) ?_; refine AllReadyH.cons (o := _) rfl (fun K hK => ?_) AllReadyH.nil; (simp only [List.getElem_toArray, List.getElem_cons_zero, List.getElem_cons_succ, Region.wanted, if_true]); refine wp_store_mid _ _ _ rfl _ _ (ints (frac a b)).toArray rfl rfl (by simpa [li] using S0.there) (by simpa [li] using hi2) (all_oneCell_toArray (ints_one _)) ?_; (try simp only [List.getElem_toArray, List.getElem_cons_zero, List.getElem_cons_succ, Act.put, List.setIfInBounds_toArray, List.set_cons_zero, List.set_cons_succ, List.toList_toArray]); refine hK.out _ _ (⟨⟨_, S1⟩, S2⟩) (fun hHeld => ?_); clear hK K)
      refine wpAnyH_done (by kernel_rfl) ?_ _
      clear hHeld
      go_wp2_with fail
      exact bodyPost_ret (res_has rfl _ _ w.heap.size (frac a b) 2 _ rfl S1 Try.underlying33 rfl (by kernel_rfl)) rfl ⟨rfl, S2⟩
    · have hm : Int.tmod (p : Int) (q : Int) = ((p % q : Nat) : Int) := rfl
      have q0 : ((q : Int) == 0) = false := by simp; omega
      have q1 : decide ((0 : Int) < (q : Int)) = true := by simp; omega
      have hl := Nat.mod_lt p (show 0 < q by omega)
      have HG2 := Lib.hid (show Nat.gcd q (p % q) = g by rw [gcd_round p q h0]; exact HG.out)
      have HL := Lib.hid hl
      have hr : p % q ≤ 4611686018427387904 := by omega
      have w3 : IntKind.i64.wrap ((p % q : Nat) : Int) = ((p % q : Nat) : Int) := IntWalk.i64_in _ (by omega)
      clear hl
      generalize p % q = r at *
      go_wp2_with fail
      go_quiet (fail)
      have GZ2 := GZ.drewN nq
      have GB2 := Lib.hid (GB.out.drewN nq)
      go_wp2_with fail
      go_roundw
      case rel => exact ⟨q, r, rfl, rfl, hq, hr, HG2, GZ2, GB2⟩
      case measure => have := HL.out; simp [intOf]; omega
end Go.Proofs.Ytemiljokdedidac.base
