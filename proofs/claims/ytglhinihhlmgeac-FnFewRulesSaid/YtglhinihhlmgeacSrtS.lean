/-
  Whether some pours by a rule sort a rack, on the model's side, walked: it calls itself.
-/
import Derived.Test.YtglhinihhlmgeacFewM
import Derived.Test.YtglhinihhlmgeacSortSZ
import Derived.Test.YtglhinihhlmgeacByS
import Derived.Test.YtglhinihhlmgeacRwZ
namespace Go.Proofs.Ytglhinihhlmgeac.base
open Go.ChangeShapes Go.WideShapes Go.ChangeAt Go.RowKit
set_option linter.unusedVariables false
set_option linter.unusedSimpArgs false

def anyTo (P : List Int → Bool) (ds : List Int) (x : Int) (d : Nat) (r : List Int) (k : Nat) : Bool := (List.range k).any fun j => srt P ds x d (nbAt r ds x j)
theorem anyTo_succ (P : List Int → Bool) (ds : List Int) (x : Int) (d : Nat) (r : List Int) (k : Nat) : anyTo P ds x d r (k + 1) = (anyTo P ds x d r k || srt P ds x d (nbAt r ds x k)) := by
  unfold anyTo; rw [List.range_succ, List.any_append]; simp

set_option maxHeartbeats 6400000 in
set_option maxRecDepth 100000 in
theorem l8Sorts_any (ds : List Int) (x : Int) (h6 : ds.length = 6) (hrv : ruleV x = true) : ∀ (d : Nat), d ≤ 3 → ∀ (r : List Int), GoodR ds r → ∀ (w : World),
    Calls Try.prog 29 #[row r, row ds, .int .i64 x, .int .i64 (d : Nat)] w fun e w' => e = .returned (.bool (srt sortedA ds x d r)) ∧ Kept w w' := by
  intro d
  induction d with
  | zero =>
    intro hd r g w
    have r24 := g.len
    have HB := Lib.hid (((kept_refl w).alloc (.cells (ints r).toArray 27)).alloc (.cells (ints ds).toArray 28))
    have H := (Has.box w 27 r24 (by omega)).alloc (.cells (ints ds).toArray 28)
    have E := Lib.hid (show srt sortedA ds x 0 r = sortedA r from rfl)
    rw [row_ints, row_ints]
    go_enter Try.func29, Try.ntmps29
    go_wp2_with (refine load_has rfl 27 _ rfl _ rfl ?_ 24 ?_ _ Try.underlying27 rfl ?_ ?_; rotate_left; (· (repeat (first | (with_reducible assumption) | ((with_reducible refine Has.box _ _ ?_ ?_) <;> (first | assumption | decide)) | (with_reducible refine Has.alloc ?_ _) | ((with_reducible refine Has.putOther ?_ _ _ ?_); rotate_left; omega; skip) | ((with_reducible refine Has.below ?_ ?_); rotate_left; assumption)))); (· kernel_rfl))
    refine (l2Sorted_any r _ r24 (fit_of g.fit).1).mono ?_
    rintro e w1 ⟨rfl, b1⟩
    replace HB := Lib.hid (HB.out.call b1)
    clear H b1
    cases hs : sortedA r with
    | true =>
      have E2 := Lib.hid (E.out.trans hs)
      clear hs
      go_wp2_with fail
      go_ret
      exact ⟨ret_bool (by rw [E2.out]), HB.out⟩
    | false =>
      have E2 := Lib.hid (E.out.trans hs)
      clear hs
      go_wp2_with fail
      go_ret
      exact ⟨ret_bool (by rw [E2.out]), HB.out⟩
  | succ d ih =>
    intro hd r g w
    have r24 := g.len
    have G0 := Lib.hid g
    have IH := Lib.hid (fun t (ht : GoodR ds t) W => ih (by omega) t ht W)
    have HB := Lib.hid (((kept_refl w).alloc (.cells (ints r).toArray 27)).alloc (.cells (ints ds).toArray 28))
    have H := (Has.box w 27 r24 (by omega)).alloc (.cells (ints ds).toArray 28)
    have D := (Has.box (w.alloc (.cells (ints r).toArray 27)) 28 h6 (by omega)).at (size1 _ _)
    have hiR : (Try.prog.info? 27).map (·.size) = some (ints r).length := by rw [ints_len, r24]; kernel_rfl
    have HIR := Lib.hid hiR
    have hiD : (Try.prog.info? 28).map (·.size) = some (ints ds).length := by rw [ints_len, h6]; kernel_rfl
    have HID := Lib.hid hiD
    have E := Lib.hid (show srt sortedA ds x (d + 1) r = (sortedA r || anyTo sortedA ds x d r (nbN ds x r)) from rfl)
    clear hiR hiD ih g
    rw [row_ints, row_ints]
    go_enter Try.func29, Try.ntmps29
    go_wp2_with (refine load_has rfl 27 _ rfl _ rfl ?_ 24 ?_ _ Try.underlying27 rfl ?_ ?_; rotate_left; (· (repeat (first | (with_reducible assumption) | ((with_reducible refine Has.box _ _ ?_ ?_) <;> (first | assumption | decide)) | (with_reducible refine Has.alloc ?_ _) | ((with_reducible refine Has.putOther ?_ _ _ ?_); rotate_left; omega; skip) | ((with_reducible refine Has.below ?_ ?_); rotate_left; assumption)))); (· kernel_rfl))
    refine (l2Sorted_any r _ r24 (fit_of G0.out.fit).1).mono ?_
    rintro e w1 ⟨rfl, b1⟩
    replace H := H.below b1
    replace D := D.below b1
    replace HB := Lib.hid (HB.out.call b1)
    clear b1
    cases hs : sortedA r with
    | true =>
      have E2 := Lib.hid (show srt sortedA ds x (d + 1) r = true by rw [E.out, hs, Bool.true_or])
      clear hs
      go_wp2_with fail
      go_ret
      exact ⟨ret_bool (by rw [E2.out]), HB.out⟩
    | false =>
      have E2 := Lib.hid (show srt sortedA ds x (d + 1) r = anyTo sortedA ds x d r (nbN ds x r) by rw [E.out, hs, Bool.false_or])
      have z1 : (((d + 1 : Nat) : Int) == 0) = false := by simp; omega
      have z2 : ((d : Int) + 1 == 0) = false := by simp; omega
      have z3 : decide ((d : Int) + 1 = 0) = false := by simp; omega
      clear hs E
      go_wp2_with (first | (refine load_has rfl 27 _ rfl _ rfl ?_ 24 ?_ _ Try.underlying27 rfl ?_ ?_; rotate_left; (· (repeat (first | (with_reducible assumption) | ((with_reducible refine Has.box _ _ ?_ ?_) <;> (first | assumption | decide)) | (with_reducible refine Has.alloc ?_ _) | ((with_reducible refine Has.putOther ?_ _ _ ?_); rotate_left; omega; skip) | ((with_reducible refine Has.below ?_ ?_); rotate_left; assumption)))); (· kernel_rfl)) | (refine load_has rfl 28 _ rfl _ rfl ?_ 6 ?_ _ Try.underlying28 rfl ?_ ?_; rotate_left; (· (repeat (first | (with_reducible assumption) | ((with_reducible refine Has.box _ _ ?_ ?_) <;> (first | assumption | decide)) | (with_reducible refine Has.alloc ?_ _) | ((with_reducible refine Has.putOther ?_ _ _ ?_); rotate_left; omega; skip) | ((with_reducible refine Has.below ?_ ?_); rotate_left; assumption)))); (· kernel_rfl)))
      refine (l8Pours_any r ds x _ r24 h6 G0.out.fit hrv).mono ?_
      rintro e w5 ⟨pv, rfl, q5, b5⟩
      have hn36 := pN_le (byP r ds x) 36
      have NB := Lib.hid (fun j hj => nb_at (x := x) (j := j) G0.out hj)
      have EN : pN (byP r ds x) 36 = nbN ds x r := rfl
      rw [EN] at q5 hn36
      clear EN
      obtain ⟨F, hF⟩ : ∃ F, pF (byP r ds x) 36 = F := ⟨_, rfl⟩
      rw [hF] at q5 NB
      clear hF
      obtain ⟨n, hnn⟩ : ∃ n, nbN ds x r = n := ⟨_, rfl⟩
      rw [hnn] at q5 hn36 NB E2
      have HNN := Lib.hid hnn
      clear hnn z1 z2 z3
      obtain ⟨pa, pcap, hpv⟩ := q5.rw.shape
      subst hpv
      have GP := Lib.hid (q5.rw.mono (b' := 0) (Nat.zero_le _))
      replace H := H.below b5
      replace D := D.below b5
      replace HB := Lib.hid (HB.out.call b5)
      clear b5 q5
      go_wp2_with fail
      go_loopw [10] (fun z wr => ∃ j : Nat, j ≤ n ∧ z = .int .i64 j ∧ Has wr w.heap.size r 24 ∧ Has wr (w.heap.size + 1) ds 6 ∧ Hid (Rw wr 0 (.slice pa n pcap) n F) ∧ Hid (anyTo sortedA ds x d r j = false) ∧ Hid (Kept w wr)) (fun z _ => n - (intOf z).toNat)
      case atStart => exact ⟨0, by omega, rfl, H, D, GP, Lib.hid rfl, HB⟩
      case round =>
        clear H D GP HB
        obtain ⟨j, hj, rfl, H, D, GP, AF, HB⟩ := hrel
        by_cases hjn : j < n
        · have hji : (j : Int) < (n : Int) := by omega
          have hj0 : (0 : Int) ≤ (j : Int) := by omega
          obtain ⟨pg, pc2, hv', hg1, hg2⟩ := GP.out.form (by omega)
          injection hv' with ha _ hcap
          subst ha
          subst hcap
          obtain ⟨hp6, hq6, hpos, hx, hy⟩ := NB.out j hjn
          have GT := Lib.hid (nb_good (x := x) (j := j) G0.out (by rw [HNN.out]; exact hjn))
          have AS := Lib.hid (anyTo_succ sortedA ds x d r j)
          have AN := Lib.hid (fun (h : srt sortedA ds x d (nbAt r ds x j) = true) => (show anyTo sortedA ds x d r n = true by
            unfold anyTo; exact List.any_eq_true.2 ⟨j, List.mem_range.2 hjn, h⟩))
          have ET := Lib.hid (show nbAt r ds x j = moveT r (pAt r ds x j) (qAt r ds x j) (mvN r ds x (pAt r ds x j) (qAt r ds x j)) from rfl)
          obtain ⟨p, hpe⟩ : ∃ p, pAt r ds x j = p := ⟨_, rfl⟩
          obtain ⟨q, hqe⟩ : ∃ q, qAt r ds x j = q := ⟨_, rfl⟩
          rw [hpe, hqe] at hpos ET
          rw [hpe] at hp6 hx
          rw [hqe] at hq6 hy
          clear hpe hqe
          have MO := mv_moveOk r24 (G0.out.fit) hp6 hq6 hpos
          have KM := Lib.hid (fun V => l8Move_any r p q (mvN r ds x p q) V MO (mvN_le r ds x p q))
          have KV := Lib.hid (fun V => l8Moves_any r ds x p q V r24 h6 G0.out.fit hrv hp6 hq6)
          obtain ⟨m, hm⟩ : ∃ m, mvN r ds x p q = m := ⟨_, rfl⟩
          rw [hm] at KM KV ET
          clear hm MO hpos
          obtain ⟨t, ht⟩ : ∃ t, nbAt r ds x j = t := ⟨_, rfl⟩
          rw [ht] at GT ET AS AN
          rw [← ET.out] at KM
          have KI := Lib.hid (fun V => IH.out t GT.out V)
          clear ht ET
          have HX := Lib.hid hx
          have HY := Lib.hid hy
          have hpi : (p : Int) < 6 := by omega
          have hqi : (q : Int) < 6 := by omega
          clear hx hy hg1 hg2
          replace H := H.drew
          replace D := D.drew
          replace GP := Lib.hid GP.out.drew
          replace HB := Lib.hid (keptDrew8 HB.out)
          go_wp2_with fail
          refine wp_region_held_drew (S := fun w' => Rw w' 0 (.slice (some ⟨pg, 0, none⟩) n pcap) n F) (by kernel_rfl) GP.out (fun hHeld => ?_)
          generalize World.drew _ = V1 at *
          (refine wpAnyH_take (i := 0) (v := ?_) rfl (by kernel_rfl) (by kernel_rfl) (by kernel_rfl) (fun _ _ _ h => h) (Or.inl ⟨by rfl, ?_⟩) hHeld ?_; rotate_left; (· (intro w' hSw; go_simp; try with_reducible rfl)); (try simp only [List.getElem_toArray, List.getElem_cons_zero, List.getElem_cons_succ, Act.put, List.setIfInBounds_toArray, List.set_cons_zero, List.set_cons_succ])); (refine wpAnyH_take (i := 1) (v := ?_) rfl (by kernel_rfl) (by kernel_rfl) (by kernel_rfl) (fun _ _ _ h => h) (Or.inl ⟨by rfl, ?_⟩) hHeld ?_; rotate_left; (· (intro w' hSw; go_simp; try with_reducible rfl)); (try simp only [List.getElem_toArray, List.getElem_cons_zero, List.getElem_cons_succ, Act.put, List.setIfInBounds_toArray, List.set_cons_zero, List.set_cons_succ])); (refine wpAnyH_take (i := 2) (v := ?_) rfl (by kernel_rfl) (by kernel_rfl) (by kernel_rfl) (fun _ _ _ h => h) (Or.inl ⟨by rfl, ?_⟩) hHeld ?_; rotate_left; (· (intro w' hSw; go_simp; try with_reducible rfl)); (try simp only [List.getElem_toArray, List.getElem_cons_zero, List.getElem_cons_succ, Act.put, List.setIfInBounds_toArray, List.set_cons_zero, List.set_cons_succ])); (refine wpAnyH_take (i := 3) (v := ?_) rfl (by kernel_rfl) (by kernel_rfl) (by kernel_rfl) (fun _ _ _ h => h) (Or.inl ⟨by rfl, ?_⟩) hHeld ?_; rotate_left; (· (intro w' hSw; go_simp; try with_reducible rfl)); (try simp only [List.getElem_toArray, List.getElem_cons_zero, List.getElem_cons_succ, Act.put, List.setIfInBounds_toArray, List.set_cons_zero, List.set_cons_succ]))
          (refine wpAnyH_take (i := 4) (v := .int .i64 (p : Int)) rfl (by kernel_rfl) (by kernel_rfl) (by kernel_rfl) (fun _ _ _ h => h) (Or.inl ⟨by rfl, ?_⟩) hHeld ?_; (· (intro w' hSw; have q := hSw.cellX (by omega) HX.out; clear hSw; go_simp; try with_reducible rfl)); (try simp only [List.getElem_toArray, List.getElem_cons_zero, List.getElem_cons_succ, Act.put, List.setIfInBounds_toArray, List.set_cons_zero, List.set_cons_succ]))
          (refine wpAnyH_take (i := 5) (v := ?_) rfl (by kernel_rfl) (by kernel_rfl) (by kernel_rfl) (fun _ _ _ h => h) (Or.inl ⟨by rfl, ?_⟩) hHeld ?_; rotate_left; (· (intro w' hSw; go_simp; try with_reducible rfl)); (try simp only [List.getElem_toArray, List.getElem_cons_zero, List.getElem_cons_succ, Act.put, List.setIfInBounds_toArray, List.set_cons_zero, List.set_cons_succ])); (refine wpAnyH_take (i := 6) (v := ?_) rfl (by kernel_rfl) (by kernel_rfl) (by kernel_rfl) (fun _ _ _ h => h) (Or.inl ⟨by rfl, ?_⟩) hHeld ?_; rotate_left; (· (intro w' hSw; go_simp; try with_reducible rfl)); (try simp only [List.getElem_toArray, List.getElem_cons_zero, List.getElem_cons_succ, Act.put, List.setIfInBounds_toArray, List.set_cons_zero, List.set_cons_succ])); (refine wpAnyH_take (i := 7) (v := ?_) rfl (by kernel_rfl) (by kernel_rfl) (by kernel_rfl) (fun _ _ _ h => h) (Or.inl ⟨by rfl, ?_⟩) hHeld ?_; rotate_left; (· (intro w' hSw; go_simp; try with_reducible rfl)); (try simp only [List.getElem_toArray, List.getElem_cons_zero, List.getElem_cons_succ, Act.put, List.setIfInBounds_toArray, List.set_cons_zero, List.set_cons_succ])); (refine wpAnyH_take (i := 8) (v := ?_) rfl (by kernel_rfl) (by kernel_rfl) (by kernel_rfl) (fun _ _ _ h => h) (Or.inl ⟨by rfl, ?_⟩) hHeld ?_; rotate_left; (· (intro w' hSw; go_simp; try with_reducible rfl)); (try simp only [List.getElem_toArray, List.getElem_cons_zero, List.getElem_cons_succ, Act.put, List.setIfInBounds_toArray, List.set_cons_zero, List.set_cons_succ]))
          (refine wpAnyH_take (i := 9) (v := .int .i64 (q : Int)) rfl (by kernel_rfl) (by kernel_rfl) (by kernel_rfl) (fun _ _ _ h => h) (Or.inl ⟨by rfl, ?_⟩) hHeld ?_; (· (intro w' hSw; have q := hSw.cellX (by omega) HY.out; clear hSw; go_simp; try with_reducible rfl)); (try simp only [List.getElem_toArray, List.getElem_cons_zero, List.getElem_cons_succ, Act.put, List.setIfInBounds_toArray, List.set_cons_zero, List.set_cons_succ]))
          (refine wpAnyH_take (i := 10) (v := ?_) rfl (by kernel_rfl) (by kernel_rfl) (by kernel_rfl) (fun _ _ _ h => h) (Or.inl ⟨by rfl, ?_⟩) hHeld ?_; rotate_left; (· (intro w' hSw; go_simp; try with_reducible rfl)); (try simp only [List.getElem_toArray, List.getElem_cons_zero, List.getElem_cons_succ, Act.put, List.setIfInBounds_toArray, List.set_cons_zero, List.set_cons_succ])); (refine wpAnyH_take (i := 11) (v := ?_) rfl (by kernel_rfl) (by kernel_rfl) (by kernel_rfl) (fun _ _ _ h => h) (Or.inl ⟨by rfl, ?_⟩) hHeld ?_; rotate_left; (· (intro w' hSw; go_simp; try with_reducible rfl)); (try simp only [List.getElem_toArray, List.getElem_cons_zero, List.getElem_cons_succ, Act.put, List.setIfInBounds_toArray, List.set_cons_zero, List.set_cons_succ]))
          refine wpAnyH_done (by kernel_rfl) ?_ _
          clear hHeld HX HY
          replace H := H.drew
          replace D := D.drew
          replace GP := Lib.hid GP.out.drew
          replace HB := Lib.hid (keptDrew8 HB.out)
          go_wp2_with fail
          refine wp_region_held_drew (S := fun w' => Has w' w.heap.size r 24 ∧ Has w' (w.heap.size + 1) ds 6) (by kernel_rfl) ⟨H, D⟩ (fun hHeld => ?_)
          generalize World.drew _ = V2 at *
          have wsb : IntKind.i64.wrap (d : Int) = (d : Int) := IntWalk.i64_in _ (by omega)
          have wsc : (d : Int) + 1 - 1 = (d : Int) := by omega
          (refine wpAnyH_take (i := 0) (v := _) rfl (by kernel_rfl) (by kernel_rfl) (by kernel_rfl) (fun _ _ _ h => h) (yieldsIf_load_mid (by rfl) 27 _ rfl _ _ rfl (ints r) _ (fun w' hSw => hSw.1.holds.range) Try.underlying27 rfl (HIR.out)) hHeld ?_; (try simp only [List.getElem_toArray, List.getElem_cons_zero, List.getElem_cons_succ, Act.put, List.setIfInBounds_toArray, List.set_cons_zero, List.set_cons_succ]))
          (refine wpAnyH_take (i := 1) (v := ?_) rfl (by kernel_rfl) (by kernel_rfl) (by kernel_rfl) (fun _ _ _ h => h) (Or.inl ⟨by rfl, ?_⟩) hHeld ?_; rotate_left; (· (intro w' hSw; go_simp; try with_reducible rfl)); (try simp only [List.getElem_toArray, List.getElem_cons_zero, List.getElem_cons_succ, Act.put, List.setIfInBounds_toArray, List.set_cons_zero, List.set_cons_succ])); (refine wpAnyH_take (i := 2) (v := ?_) rfl (by kernel_rfl) (by kernel_rfl) (by kernel_rfl) (fun _ _ _ h => h) (Or.inl ⟨by rfl, ?_⟩) hHeld ?_; rotate_left; (· (intro w' hSw; go_simp; try with_reducible rfl)); (try simp only [List.getElem_toArray, List.getElem_cons_zero, List.getElem_cons_succ, Act.put, List.setIfInBounds_toArray, List.set_cons_zero, List.set_cons_succ]))
          (refine wpAnyH_take (i := 3) (v := _) rfl (by kernel_rfl) (by kernel_rfl) (by kernel_rfl) (fun _ _ _ h => h) (yieldsIf_load_mid (by rfl) 27 _ rfl _ _ rfl (ints r) _ (fun w' hSw => hSw.1.holds.range) Try.underlying27 rfl (HIR.out)) hHeld ?_; (try simp only [List.getElem_toArray, List.getElem_cons_zero, List.getElem_cons_succ, Act.put, List.setIfInBounds_toArray, List.set_cons_zero, List.set_cons_succ]))
          (refine wpAnyH_take (i := 4) (v := _) rfl (by kernel_rfl) (by kernel_rfl) (by kernel_rfl) (fun _ _ _ h => h) (yieldsIf_load_mid (by rfl) 28 _ rfl _ _ rfl (ints ds) _ (fun w' hSw => hSw.2.holds.range) Try.underlying28 rfl (HID.out)) hHeld ?_; (try simp only [List.getElem_toArray, List.getElem_cons_zero, List.getElem_cons_succ, Act.put, List.setIfInBounds_toArray, List.set_cons_zero, List.set_cons_succ]))
          (refine wpAnyH_take (i := 5) (v := ?_) rfl (by kernel_rfl) (by kernel_rfl) (by kernel_rfl) (fun _ _ _ h => h) (Or.inl ⟨by rfl, ?_⟩) hHeld ?_; rotate_left; (· (intro w' hSw; go_simp; try with_reducible rfl)); (try simp only [List.getElem_toArray, List.getElem_cons_zero, List.getElem_cons_succ, Act.put, List.setIfInBounds_toArray, List.set_cons_zero, List.set_cons_succ])); (refine wpAnyH_take (i := 6) (v := ?_) rfl (by kernel_rfl) (by kernel_rfl) (by kernel_rfl) (fun _ _ _ h => h) (Or.inl ⟨by rfl, ?_⟩) hHeld ?_; rotate_left; (· (intro w' hSw; go_simp; try with_reducible rfl)); (try simp only [List.getElem_toArray, List.getElem_cons_zero, List.getElem_cons_succ, Act.put, List.setIfInBounds_toArray, List.set_cons_zero, List.set_cons_succ])); (refine wpAnyH_take (i := 7) (v := ?_) rfl (by kernel_rfl) (by kernel_rfl) (by kernel_rfl) (fun _ _ _ h => h) (Or.inl ⟨by rfl, ?_⟩) hHeld ?_; rotate_left; (· (intro w' hSw; go_simp; try with_reducible rfl)); (try simp only [List.getElem_toArray, List.getElem_cons_zero, List.getElem_cons_succ, Act.put, List.setIfInBounds_toArray, List.set_cons_zero, List.set_cons_succ]))
          (refine wpAnyH_take (i := 10) (v := _) rfl (by kernel_rfl) (by kernel_rfl) (by kernel_rfl) (fun _ _ _ h => h) (yieldsIf_load_mid (by rfl) 28 _ rfl _ _ rfl (ints ds) _ (fun w' hSw => hSw.2.holds.range) Try.underlying28 rfl (HID.out)) hHeld ?_; (try simp only [List.getElem_toArray, List.getElem_cons_zero, List.getElem_cons_succ, Act.put, List.setIfInBounds_toArray, List.set_cons_zero, List.set_cons_succ]))
          (refine wpAnyH_take (i := 11) (v := ?_) rfl (by kernel_rfl) (by kernel_rfl) (by kernel_rfl) (fun _ _ _ h => h) (Or.inl ⟨by rfl, ?_⟩) hHeld ?_; rotate_left; (· (intro w' hSw; go_simp; try with_reducible rfl)); (try simp only [List.getElem_toArray, List.getElem_cons_zero, List.getElem_cons_succ, Act.put, List.setIfInBounds_toArray, List.set_cons_zero, List.set_cons_succ])); (refine wpAnyH_take (i := 12) (v := ?_) rfl (by kernel_rfl) (by kernel_rfl) (by kernel_rfl) (fun _ _ _ h => h) (Or.inl ⟨by rfl, ?_⟩) hHeld ?_; rotate_left; (· (intro w' hSw; go_simp; try with_reducible rfl)); (try simp only [List.getElem_toArray, List.getElem_cons_zero, List.getElem_cons_succ, Act.put, List.setIfInBounds_toArray, List.set_cons_zero, List.set_cons_succ])); (refine wpAnyH_take (i := 13) (v := ?_) rfl (by kernel_rfl) (by kernel_rfl) (by kernel_rfl) (fun _ _ _ h => h) (Or.inl ⟨by rfl, ?_⟩) hHeld ?_; rotate_left; (· (intro w' hSw; go_simp; try with_reducible rfl)); (try simp only [List.getElem_toArray, List.getElem_cons_zero, List.getElem_cons_succ, Act.put, List.setIfInBounds_toArray, List.set_cons_zero, List.set_cons_succ]))
          (refine wpAnyH_ready (rs := [8]) (by kernel_rfl) (by simp) ?_; refine AllReadyH.cons (o := _) rfl (fun K hK => ?_) AllReadyH.nil; (simp only [List.getElem_toArray, List.getElem_cons_zero, List.getElem_cons_succ, Region.wanted, if_true]))
          go_simp
          refine (KV.out _).mono ?_
          rintro e w6 ⟨rfl, b6⟩
          dsimp only
          (try simp only [List.getElem_toArray, List.getElem_cons_zero, List.getElem_cons_succ, Act.put, List.setIfInBounds_toArray, List.set_cons_zero, List.set_cons_succ])
          refine hK.out _ _ ⟨hHeld.1.below b6, hHeld.2.below b6⟩ (fun hHeld => ?_)
          clear hK K
          replace H := H.below b6
          replace D := D.below b6
          replace GP := Lib.hid (GP.out.below b6)
          replace HB := Lib.hid (HB.out.call b6)
          clear b6
          (refine wpAnyH_ready (rs := [9]) (by kernel_rfl) (by simp) ?_; refine AllReadyH.cons (o := _) rfl (fun K hK => ?_) AllReadyH.nil; (simp only [List.getElem_toArray, List.getElem_cons_zero, List.getElem_cons_succ, Region.wanted, if_true]))
          go_simp
          refine (KM.out _).mono ?_
          rintro e w7 ⟨rfl, b7⟩
          dsimp only
          (try simp only [List.getElem_toArray, List.getElem_cons_zero, List.getElem_cons_succ, Act.put, List.setIfInBounds_toArray, List.set_cons_zero, List.set_cons_succ])
          refine hK.out _ _ ⟨hHeld.1.below b7, hHeld.2.below b7⟩ (fun hHeld => ?_)
          clear hK K
          replace H := H.below b7
          replace D := D.below b7
          replace GP := Lib.hid (GP.out.below b7)
          replace HB := Lib.hid (HB.out.call b7)
          clear b7
          (refine wpAnyH_ready (rs := [14]) (by kernel_rfl) (by simp) ?_; refine AllReadyH.cons (o := _) rfl (fun K hK => ?_) AllReadyH.nil; (simp only [List.getElem_toArray, List.getElem_cons_zero, List.getElem_cons_succ, Region.wanted, if_true]))
          go_simp
          refine (KI.out _).mono ?_
          rintro e w8 ⟨rfl, b8⟩
          dsimp only
          (try simp only [List.getElem_toArray, List.getElem_cons_zero, List.getElem_cons_succ, Act.put, List.setIfInBounds_toArray, List.set_cons_zero, List.set_cons_succ])
          refine hK.out _ _ ⟨hHeld.1.below b8, hHeld.2.below b8⟩ (fun hHeld => ?_)
          clear hK K
          replace H := H.below b8
          replace D := D.below b8
          replace GP := Lib.hid (GP.out.below b8)
          replace HB := Lib.hid (HB.out.call b8)
          clear b8
          refine wpAnyH_done (by kernel_rfl) ?_ _
          clear hHeld KV KM KI wsb wsc
          cases hb : srt sortedA ds x d t with
          | true =>
            have E3 := Lib.hid (show srt sortedA ds x (d + 1) r = true by rw [E2.out, AN.out hb])
            clear hb
            go_wp2_with fail
            go_ret
            exact ⟨ret_bool (by rw [E3.out]), HB.out⟩
          | false =>
            have A2 := Lib.hid (show anyTo sortedA ds x d r (j + 1) = false by rw [AS.out, AF.out, hb]; rfl)
            clear hb
            go_wp2_with fail
            go_roundw
            case rel => exact ⟨j + 1, by omega, by go_num, H, D, GP, A2, HB⟩
            case measure => simp [intOf]; omega
        · obtain rfl : j = n := by omega
          have E3 := Lib.hid (show srt sortedA ds x (d + 1) r = false by rw [E2.out, AF.out])
          go_wp2_with fail
          go_ret
          exact ⟨ret_bool (by rw [E3.out]), HB.out⟩
end Go.Proofs.Ytglhinihhlmgeac.base
