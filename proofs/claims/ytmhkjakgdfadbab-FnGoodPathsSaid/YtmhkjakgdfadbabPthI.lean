/-
  The path of first good pours, on the program's side, walked.
-/
import Derived.Test.YtmhkjakgdfadbabPthS
namespace Go.Proofs.Ytmhkjakgdfadbab.base
open Go.ChangeShapes Go.WideShapes Go.ChangeAt Go.RowKit
set_option linter.unusedVariables false
set_option linter.unusedSimpArgs false

def z120 : List Int := [0, 0, 0, 0, 0, 0, 0, 0, 0, 0, 0, 0, 0, 0, 0, 0, 0, 0, 0, 0, 0, 0, 0, 0, 0, 0, 0, 0, 0, 0, 0, 0, 0, 0, 0, 0, 0, 0, 0, 0, 0, 0, 0, 0, 0, 0, 0, 0, 0, 0, 0, 0, 0, 0, 0, 0, 0, 0, 0, 0, 0, 0, 0, 0, 0, 0, 0, 0, 0, 0, 0, 0, 0, 0, 0, 0, 0, 0, 0, 0, 0, 0, 0, 0, 0, 0, 0, 0, 0, 0, 0, 0, 0, 0, 0, 0, 0, 0, 0, 0, 0, 0, 0, 0, 0, 0, 0, 0, 0, 0, 0, 0, 0, 0, 0, 0, 0, 0, 0, 0]
theorem build120 (w : World) : (Instr.build 51 #[]).run Try.prog w = .ok (.agg (ints z120).toArray) w := by kernel_rfl
theorem Has.putTwo {w : World} {b n : Nat} {F : List Int} (h : Has w b F n) (k : Nat) (x y : Int) (hk : k * 2 + 1 < n) : Has (w.setCells b (k * 2) (ints [x, y])) b ((F.set (k * 2) x).set (k * 2 + 1) y) n :=
  (h.set (k * 2) x (by omega)).set (k * 2 + 1) y hk
theorem Has.thereAt {w : World} {b n : Nat} {F : List Int} (h : Has w b F n) (k : Nat) (hk : k * 2 + 1 < n) : w.there b (k * 2) 2 := fun i hi => by
  rw [h.cell (k * 2 + i) (by omega)]
  exact ⟨rfl, h.free _ (by omega)⟩
/-- The first pairs of a box that is a path. -/
structure Path (ns F : List Int) (k : Nat) : Prop where
  len : F.length = 120
  same : ∀ j, j < k * 2 → F.getD j 0 = (gpF ns k).getD j 0
theorem Path.next {ns F : List Int} {k : Nat} (h : Path ns F k) (hk : k < 60) : Path ns ((F.set (k * 2) (gpX (gpR ns k))).set (k * 2 + 1) (gpY (gpR ns k))) (k + 1) := by
  have hl := gpF_len ns k
  refine ⟨by rw [List.length_set, List.length_set]; exact h.len, fun j hj => ?_⟩
  rw [getD_set2 _ _ _ _ _ (by rw [h.len]; omega), gpF]
  by_cases h1 : j = k * 2
  · subst h1
    rw [if_pos rfl, List.getD_eq_getElem?_getD, List.getElem?_append_right (by omega), hl, Nat.sub_self]; rfl
  · rw [if_neg h1]
    by_cases h2 : j = k * 2 + 1
    · subst h2
      rw [if_pos rfl, List.getD_eq_getElem?_getD, List.getElem?_append_right (by omega), hl, Nat.add_sub_cancel_left]; rfl
    · rw [if_neg h2, h.same j (by omega), getD_left _ _ _ (by omega)]
theorem Path.row {w : World} {b5 b k : Nat} {ns F : List Int} (h : Path ns F k) (H : Has w b5 F 120) (hb : b ≤ b5) (hk : k ≤ 60) : Rw w b (.slice (some ⟨b5, 0, none⟩) k k) k (gpF ns k) := by
  refine ⟨gpF_len ns k, ?_⟩
  cases k with
  | zero => exact .inl ⟨rfl, _, _, rfl⟩
  | succ k =>
    refine .inr ⟨b5, k + 1, rfl, hb, H.lt, Nat.le_refl _, fun j hj => ?_, fun j hj => ?_⟩
    · rw [H.cell j (by omega), h.same j hj]
    · exact H.free j (by omega)

set_option maxHeartbeats 3200000 in
set_option maxRecDepth 100000 in
theorem implPath (ns : List Int) (w : World) (h24 : ns.length = 24) :
    Calls Try.prog 6 #[row ns] w (PathPost ns w) := by
  have hi0 : (Try.prog.info? 27).map (·.size) = some 24 := by kernel_rfl
  have HB := Lib.hid (((kept_refl w).alloc (.cells (ints ns).toArray 27)).alloc (.cells #[.int .i64 0, .int .i64 0, .int .i64 0, .int .i64 0, .int .i64 0, .int .i64 0, .int .i64 0, .int .i64 0, .int .i64 0, .int .i64 0, .int .i64 0, .int .i64 0, .int .i64 0, .int .i64 0, .int .i64 0, .int .i64 0, .int .i64 0, .int .i64 0, .int .i64 0, .int .i64 0, .int .i64 0, .int .i64 0, .int .i64 0, .int .i64 0] 27))
  have H := (Has.box w 27 h24 (by omega)).alloc (.cells #[.int .i64 0, .int .i64 0, .int .i64 0, .int .i64 0, .int .i64 0, .int .i64 0, .int .i64 0, .int .i64 0, .int .i64 0, .int .i64 0, .int .i64 0, .int .i64 0, .int .i64 0, .int .i64 0, .int .i64 0, .int .i64 0, .int .i64 0, .int .i64 0, .int .i64 0, .int .i64 0, .int .i64 0, .int .i64 0, .int .i64 0, .int .i64 0] 27)
  have Z := (Has.zero24 (w.alloc (.cells (ints ns).toArray 27)) 27).at (size1 _ _)
  have hz24 : z24.length = 24 := rfl
  rw [row_ints]
  go_enter Try.func6, Try.ntmps6
  go_wp2_with (refine load_has rfl 27 _ rfl _ rfl ?_ 24 ?_ _ Try.underlying27 rfl ?_ ?_; rotate_left; (· (repeat (first | (with_reducible assumption) | ((with_reducible refine Has.box _ _ ?_ ?_) <;> (first | assumption | decide)) | (with_reducible refine Has.alloc ?_ _) | ((with_reducible refine Has.putOther ?_ _ _ ?_); rotate_left; omega; skip) | ((with_reducible refine Has.below ?_ ?_); rotate_left; assumption)))); (· kernel_rfl))
  refine (isRack_any ns _ h24).mono ?_
  rintro e w1 ⟨rfl, b1⟩
  replace H := H.below b1
  replace Z := Z.below b1
  replace HB := Lib.hid (HB.out.call b1)
  have hs1 := b1.size
  rw [size1, size1] at hs1
  clear b1
  by_cases hv : vR ns = true
  rotate_left
  · have hf : vR ns = false := by simpa using hv
    have E1 : Hid (gpNA ns = 0 ∧ gpFA ns = [] ∧ gpRA ns = z24) := Lib.hid (by unfold gpNA gpFA gpRA; exact ⟨if_neg hv, if_neg hv, if_neg hv⟩)
    have Z2 := Z.alloc (.cells #[] 44)
    have S1 := Lib.hid (Z2.putAll z24 rfl)
    have S2 := Lib.hid ((HB.out.alloc (.cells #[] 44)).puts (b := w.heap.size + 1) (by omega) 0 (ints z24))
    have S3 := Lib.hid (((Prs.none w1 (w.heap.size + 1) (by omega)).rw).puts (w.heap.size + 1) 0 (ints z24) (fun h _ => absurd h (Nat.lt_irrefl 0)))
    have HV := Lib.hid hf
    rw [hf]
    clear hf hv
    go_wp2_with (first | (refine build_law rfl 27 rfl _ buildRack ?_) | (refine store_at rfl 27 _ _ rfl _ _ rfl rfl ?_ 24 ?_ ?_ ?_ ?_; rotate_left; (· (repeat (first | (with_reducible assumption) | ((with_reducible refine Has.box _ _ ?_ ?_) <;> (first | assumption | decide)) | (with_reducible refine Has.alloc ?_ _) | ((with_reducible refine Has.putOther ?_ _ _ ?_); rotate_left; omega; skip) | ((with_reducible refine Has.below ?_ ?_); rotate_left; assumption)))); (· (first | assumption | rfl)); (· kernel_rfl)))
    exact bodyPost_ret (res_tct rfl _ _ (w.heap.size + 1) z24 24 _ _ (.bool false) rfl rfl rfl S1.out Try.underlying27 rfl (by kernel_rfl)) rfl ⟨.slice (some ⟨w1.heap.size, 0, none⟩) 0 0, by rw [E1.out.2.2, HV.out]; rfl, by rw [E1.out.1, E1.out.2.1]; exact S3.out, S2.out⟩
  rw [hv]
  have E1 : Hid (gpNA ns = gpN ns ∧ gpFA ns = gpF ns (gpN ns) ∧ gpRA ns = gpR ns (gpN ns)) := Lib.hid (by unfold gpNA gpFA gpRA; exact ⟨if_pos hv, if_pos hv, if_pos hv⟩)
  have FA := Lib.hid (fun k h => gp_facts h24 hv k h)
  have SH := Lib.hid (fun k h => gp_short h24 hv (k := k) h)
  have HV := Lib.hid hv
  have S0 : Hid (stopW (gpMore ns) 0 = 0) := Lib.hid rfl
  have hz120 : z120.length = 120 := rfl
  have B5 := Has.box (ns := z120) w1 51 rfl (by decide)
  have P5 : Hid (Path ns z120 0) := Lib.hid ⟨rfl, fun j hj => by omega⟩
  replace H := H.alloc (.cells (ints z120).toArray 51)
  replace Z := Z.alloc (.cells (ints z120).toArray 51)
  replace HB := Lib.hid (HB.out.alloc (.cells (ints z120).toArray 51))
  clear hv h24
  go_wp2_with (first | (refine build_law rfl 51 rfl _ build120 ?_) | (refine store_new rfl 51 _ _ rfl _ _ _ rfl _ rfl _ rfl rfl ?_ ?_ ?_; (· (first | assumption | rfl)); (· kernel_rfl)))
  generalize hb5 : w1.heap.size = b5 at *
  have hb : w.heap.size + 1 < b5 := by omega
  clear hb5 hs1 hz120
  go_loopg [6] 60 (fun gk i wr => ∃ (k : Nat) (F : List Int), gk = 60 - k ∧ i = .int .i64 k ∧ Hid (stopW (gpMore ns) k = k) ∧ Has wr w.heap.size (gpR ns k) 24 ∧ Has wr (w.heap.size + 1) z24 24 ∧ Has wr b5 F 120 ∧ Hid (Path ns F k) ∧ Hid (Kept w wr))
  case atStart => exact ⟨0, z120, rfl, rfl, S0, H, Z, B5, P5, HB⟩
  case round =>
    clear H Z B5 P5 HB S0
    obtain ⟨k, F, rfl, rfl, ST, G1, GZ, G5, GP, GB⟩ := hrel
    obtain ⟨hC24, hCV, _⟩ := FA.out k ST.out
    have hk := SH.out k ST.out
    have hi1 : (Try.prog.info? 27).map (·.size) = some (ints (gpR ns k)).length := by rw [ints_len, hC24]; exact hi0
    have hg36 := goodN_le (gpR ns k)
    have hki : (k : Int) < 60 := by omega
    have l2 : (ints (gpR ns k)).length = 24 := by rw [ints_len]; exact hC24
    go_wp2_with (refine load_has rfl 27 _ rfl _ rfl ?_ 24 ?_ _ Try.underlying27 rfl ?_ ?_; rotate_left; (· (repeat (first | (with_reducible assumption) | ((with_reducible refine Has.box _ _ ?_ ?_) <;> (first | assumption | decide)) | (with_reducible refine Has.alloc ?_ _) | ((with_reducible refine Has.putOther ?_ _ _ ?_); rotate_left; omega; skip) | ((with_reducible refine Has.below ?_ ?_); rotate_left; assumption)))); (· kernel_rfl))
    refine (implGood (gpR ns k) _ hC24).mono ?_
    rintro e w2 ⟨v, rfl, q2, b2⟩
    have hs2 := GB.out.size
    have l5o := G5.lt
    replace G1 := G1.below b2
    replace GZ := GZ.below b2
    replace G5 := G5.below b2
    have l5 := G5.lt
    replace GB := Lib.hid (GB.out.call b2)
    have hq5 : Hid (∀ j, v.ownBlock = some j → 0 < goodN (gpR ns k) → b5 < j) := Lib.hid (fun j hj hn => by have := (q2.ownlt hn j hj).1; omega)
    have GR := Lib.hid q2
    obtain ⟨a, cap, rfl⟩ := q2.shape
    clear b2 q2
    by_cases hm : 0 < goodN (gpR ns k)
    · have GG := gp_good (ns := ns) (k := k) (by unfold gpMore; exact decide_eq_true hm)
      have SN := Lib.hid (stop_go ST.out (p := gpMore ns) (by unfold gpMore; exact decide_eq_true hm))
      have hl2 := pourR_len hC24 (gpX (gpR ns k)) (gpY (gpR ns k))
      have PN := Lib.hid (GP.out.next (by omega))
      have ER : Hid (gpR ns (k + 1) = pourR (gpR ns k) (gpX (gpR ns k)) (gpY (gpR ns k))) := Lib.hid rfl
      have EX : (goodF (gpR ns k)).getD 0 0 = gpX (gpR ns k) := rfl
      have EY : (goodF (gpR ns k)).getD 1 0 = gpY (gpR ns k) := rfl
      obtain ⟨g, cap2, hv', _, hgl⟩ := GR.out.form hm
      injection hv' with ha _ hcap
      subst ha
      subst hcap
      have hg5 := hq5.out g rfl hm
      have c0 : Hid (∀ (w' : World), Rw w' 0 (.slice (some ⟨g, 0, none⟩) (goodN (gpR ns k)) cap) (goodN (gpR ns k)) (goodF (gpR ns k)) → w'.cell? ⟨g, 0, none⟩ = some (.int .i64 (gpX (gpR ns k)))) := Lib.hid (fun w' h => h.cellX (by omega) EX)
      have c1 : Hid (∀ (w' : World), Rw w' 0 (.slice (some ⟨g, 0, none⟩) (goodN (gpR ns k)) cap) (goodN (gpR ns k)) (goodF (gpR ns k)) → w'.cell? ⟨g, 1, none⟩ = some (.int .i64 (gpY (gpR ns k)))) := Lib.hid (fun w' h => h.cellX (by omega) EY)
      have hm0 : (((goodN (gpR ns k) : Nat) : Int) == 0) = false := by rw [beq_eq_false_iff_ne]; omega
      replace GR := Lib.hid (GR.out.mono (Nat.zero_le _))
      clear GG EX EY hCV
      generalize gpX (gpR ns k) = x at *
      generalize gpY (gpR ns k) = y at *
      have hmi : (0 : Int) < ((goodN (gpR ns k) : Nat) : Int) := by omega
      generalize goodN (gpR ns k) = N at *
      generalize goodF (gpR ns k) = fs at *
      generalize hC : gpR ns k = C at *
      clear hC
      have hR : (ints (pourR C x y)).length = 24 := by rw [ints_len]; exact hl2
      have RG := Lib.hid (range_two (c0.out _ GR.out) (c1.out _ GR.out))
      have hP2 : ([x, y] : List Int).length = 2 := rfl
      have ht5 := Lib.hid (G5.thereAt k (by omega))
      have N1 := G1.putOther (b' := b5) (k * 2) (ints [x, y]) (by omega)
      have NZ := GZ.putOther (b' := b5) (k * 2) (ints [x, y]) (by omega)
      have N5 := G5.putTwo k x y (by omega)
      have NR := Lib.hid (GR.out.puts b5 (k * 2) (ints [x, y]) (fun _ e => by simp only [Value.ownBlock, Option.some.injEq] at e; omega))
      have NB := Lib.hid (GB.out.puts (b := b5) (by omega) (k * 2) (ints [x, y]))
      clear G1 GZ G5 GR GB
      go_upto_region 9 with (first | (refine wpList_load_mid rfl 44 _ rfl g 0 rfl (ints [x, y]) _ RG.out Try.underlying44 rfl (by kernel_rfl) ?_) | (refine store_has rfl 44 _ _ rfl b5 (k * 2) [x, y] rfl rfl 2 rfl ht5.out ?_ ?_; (· kernel_rfl)))
      generalize w2.setCells b5 (k * 2) (ints [x, y]) = W3 at *
      generalize hF : ((F.set (k * 2) x).set (k * 2 + 1) y) = F2 at *
      clear hF
      go_wp2_with fail
      refine wp_region_held_drew (S := fun w' => Has w' (w.heap.size + 1) z24 24 ∧ Has w' b5 F2 120 ∧ Rw w' 0 (.slice (some ⟨g, 0, none⟩) N cap) N fs ∧ Kept w w') (by kernel_rfl) ?_ (fun hHeld => ?_)
      · exact ⟨NZ.drew, N5.drew, NR.out.drew, NB.out.drewN 1⟩
      have N1 := N1.drew
      generalize W3.drew = W4 at *
      clear NZ N5 NR NB
      (refine wpAnyH_take (i := 1) (v := ?_) rfl (by kernel_rfl) (by kernel_rfl) (by kernel_rfl) (fun _ _ _ h => h) (Or.inl ⟨by rfl, ?_⟩) hHeld ?_; rotate_left; (· (intro w' hSw; go_simp; try with_reducible rfl)); (try simp only [List.getElem_toArray, List.getElem_cons_zero, List.getElem_cons_succ, Act.put, List.setIfInBounds_toArray, List.set_cons_zero, List.set_cons_succ])); (refine wpAnyH_take (i := 2) (v := ?_) rfl (by kernel_rfl) (by kernel_rfl) (by kernel_rfl) (fun _ _ _ h => h) (Or.inl ⟨by rfl, ?_⟩) hHeld ?_; rotate_left; (· (intro w' hSw; go_simp; try with_reducible rfl)); (try simp only [List.getElem_toArray, List.getElem_cons_zero, List.getElem_cons_succ, Act.put, List.setIfInBounds_toArray, List.set_cons_zero, List.set_cons_succ])); (refine wpAnyH_take (i := 3) (v := ?_) rfl (by kernel_rfl) (by kernel_rfl) (by kernel_rfl) (fun _ _ _ h => h) (Or.inl ⟨by rfl, ?_⟩) hHeld ?_; rotate_left; (· (intro w' hSw; go_simp; try with_reducible rfl)); (try simp only [List.getElem_toArray, List.getElem_cons_zero, List.getElem_cons_succ, Act.put, List.setIfInBounds_toArray, List.set_cons_zero, List.set_cons_succ])); (refine wpAnyH_take (i := 5) (v := ?_) rfl (by kernel_rfl) (by kernel_rfl) (by kernel_rfl) (fun _ _ _ h => h) (Or.inl ⟨by rfl, ?_⟩) hHeld ?_; rotate_left; (· (intro w' hSw; go_simp; try with_reducible rfl)); (try simp only [List.getElem_toArray, List.getElem_cons_zero, List.getElem_cons_succ, Act.put, List.setIfInBounds_toArray, List.set_cons_zero, List.set_cons_succ])); (refine wpAnyH_take (i := 6) (v := ?_) rfl (by kernel_rfl) (by kernel_rfl) (by kernel_rfl) (fun _ _ _ h => h) (Or.inl ⟨by rfl, ?_⟩) hHeld ?_; rotate_left; (· (intro w' hSw; go_simp; try with_reducible rfl)); (try simp only [List.getElem_toArray, List.getElem_cons_zero, List.getElem_cons_succ, Act.put, List.setIfInBounds_toArray, List.set_cons_zero, List.set_cons_succ])); (refine wpAnyH_take (i := 7) (v := ?_) rfl (by kernel_rfl) (by kernel_rfl) (by kernel_rfl) (fun _ _ _ h => h) (Or.inl ⟨by rfl, ?_⟩) hHeld ?_; rotate_left; (· (intro w' hSw; go_simp; try with_reducible rfl)); (try simp only [List.getElem_toArray, List.getElem_cons_zero, List.getElem_cons_succ, Act.put, List.setIfInBounds_toArray, List.set_cons_zero, List.set_cons_succ]))
      refine wpAnyH_take (i := 4) (v := .int .i64 x) rfl (by kernel_rfl) (by kernel_rfl) (by kernel_rfl) (fun _ _ _ h => h) (Or.inl ⟨by rfl, ?_⟩) hHeld ?_
      · intro w' hSw
        have cc := c0.out w' hSw.2.2.1
        go_simp
      (try simp only [List.getElem_toArray, List.getElem_cons_zero, List.getElem_cons_succ, Act.put, List.setIfInBounds_toArray, List.set_cons_zero, List.set_cons_succ])
      refine wpAnyH_take (i := 8) (v := .int .i64 y) rfl (by kernel_rfl) (by kernel_rfl) (by kernel_rfl) (fun _ _ _ h => h) (Or.inl ⟨by rfl, ?_⟩) hHeld ?_
      · intro w' hSw
        have cc := c1.out w' hSw.2.2.1
        go_simp
      (try simp only [List.getElem_toArray, List.getElem_cons_zero, List.getElem_cons_succ, Act.put, List.setIfInBounds_toArray, List.set_cons_zero, List.set_cons_succ])
      (refine wpAnyH_ready (rs := [0]) (by kernel_rfl) (by simp) ?_; refine AllReadyH.cons (o := _) rfl (fun K hK => ?_) AllReadyH.nil; (simp only [List.getElem_toArray, List.getElem_cons_zero, List.getElem_cons_succ, Region.wanted, if_true]))
      refine wp_load_mid _ _ rfl _ _ rfl (ints C) _ N1.holds.range Try.underlying27 rfl hi1 ?_
      (try simp only [List.getElem_toArray, List.getElem_cons_zero, List.getElem_cons_succ, Act.put, List.setIfInBounds_toArray, List.set_cons_zero, List.set_cons_succ])
      refine hK.out _ _ hHeld (fun hHeld => ?_)
      clear hK K
      (refine wpAnyH_ready (rs := [9]) (by kernel_rfl) (by simp) ?_; refine AllReadyH.cons (o := _) rfl (fun K hK => ?_) AllReadyH.nil; (simp only [List.getElem_toArray, List.getElem_cons_zero, List.getElem_cons_succ, Region.wanted, if_true]))
      go_simp
      refine (implPour C x y _ hC24).mono ?_
      rintro e w5 ⟨rfl, b5'⟩
      dsimp only
      (try simp only [List.getElem_toArray, List.getElem_cons_zero, List.getElem_cons_succ, Act.put, List.setIfInBounds_toArray, List.set_cons_zero, List.set_cons_succ])
      replace N1 := N1.below b5'
      refine hK.out _ _ ⟨hHeld.1.below b5', hHeld.2.1.below b5', hHeld.2.2.1.below b5', hHeld.2.2.2.call b5'⟩ (fun hHeld => ?_)
      clear hK K b5'
      (refine wpAnyH_take (i := 10) (v := ?_) rfl (by kernel_rfl) (by kernel_rfl) (by kernel_rfl) (fun _ _ _ h => h) (Or.inl ⟨by rfl, ?_⟩) hHeld ?_; rotate_left; (· (intro w' hSw; go_simp; try with_reducible rfl)); (try simp only [List.getElem_toArray, List.getElem_cons_zero, List.getElem_cons_succ, Act.put, List.setIfInBounds_toArray, List.set_cons_zero, List.set_cons_succ])); (refine wpAnyH_take (i := 11) (v := ?_) rfl (by kernel_rfl) (by kernel_rfl) (by kernel_rfl) (fun _ _ _ h => h) (Or.inl ⟨by rfl, ?_⟩) hHeld ?_; rotate_left; (· (intro w' hSw; go_simp; try with_reducible rfl)); (try simp only [List.getElem_toArray, List.getElem_cons_zero, List.getElem_cons_succ, Act.put, List.setIfInBounds_toArray, List.set_cons_zero, List.set_cons_succ])); (refine wpAnyH_take (i := 12) (v := ?_) rfl (by kernel_rfl) (by kernel_rfl) (by kernel_rfl) (fun _ _ _ h => h) (Or.inl ⟨by rfl, ?_⟩) hHeld ?_; rotate_left; (· (intro w' hSw; go_simp; try with_reducible rfl)); (try simp only [List.getElem_toArray, List.getElem_cons_zero, List.getElem_cons_succ, Act.put, List.setIfInBounds_toArray, List.set_cons_zero, List.set_cons_succ])); (refine wpAnyH_take (i := 13) (v := ?_) rfl (by kernel_rfl) (by kernel_rfl) (by kernel_rfl) (fun _ _ _ h => h) (Or.inl ⟨by rfl, ?_⟩) hHeld ?_; rotate_left; (· (intro w' hSw; go_simp; try with_reducible rfl)); (try simp only [List.getElem_toArray, List.getElem_cons_zero, List.getElem_cons_succ, Act.put, List.setIfInBounds_toArray, List.set_cons_zero, List.set_cons_succ]))
      (refine wpAnyH_ready (rs := [14]) (by kernel_rfl) (by simp) ?_; refine AllReadyH.cons (o := _) rfl (fun K hK => ?_) AllReadyH.nil; (simp only [List.getElem_toArray, List.getElem_cons_zero, List.getElem_cons_succ, Region.wanted, if_true]))
      refine wp_store_mid _ _ _ rfl _ _ (ints (pourR C x y)).toArray rfl rfl (by simpa [hR] using N1.there) (by simpa [hR] using hi0) (all_oneCell_toArray (ints_one _)) ?_
      (try simp only [List.getElem_toArray, List.getElem_cons_zero, List.getElem_cons_succ, Act.put, List.setIfInBounds_toArray, List.set_cons_zero, List.set_cons_succ, List.toList_toArray])
      have M1 : Hid (Has (w5.setCells w.heap.size 0 (ints (pourR C x y))) w.heap.size (gpR ns (k + 1)) 24) := Lib.hid (by rw [ER.out]; exact N1.putAll _ hl2)
      refine hK.out _ _ ⟨hHeld.1.putOther (b' := w.heap.size) 0 (ints (pourR C x y)) (by omega), hHeld.2.1.putOther (b' := w.heap.size) 0 (ints (pourR C x y)) (by omega), hHeld.2.2.1.puts w.heap.size 0 (ints (pourR C x y)) (fun _ e => by simp only [Value.ownBlock, Option.some.injEq] at e; omega), hHeld.2.2.2.puts (b := w.heap.size) (Nat.le_refl _) 0 (ints (pourR C x y))⟩ (fun hHeld => ?_)
      clear hK K
      refine wpAnyH_done (by kernel_rfl) ?_ _
      have M2 := Lib.hid hHeld.1
      have M3 := Lib.hid hHeld.2.1
      have M4 := Lib.hid hHeld.2.2.2
      clear hHeld N1
      go_wp2_with fail
      go_roundg (60 - (k + 1))
      case rel => exact ⟨k + 1, F2, rfl, by go_num, SN, M1.out, M2.out, M3.out, PN, M4⟩
      case measure => omega
    · have EN : Hid (gpN ns = k) := Lib.hid (stop_end ST.out (p := gpMore ns) (by unfold gpMore; exact decide_eq_false hm) 60 (by omega))
      have hm0 : goodN (gpR ns k) = 0 := by omega
      have hd0 : (((goodN (gpR ns k) : Nat) : Int) == 0) = true := by rw [hm0]; rfl
      clear GR hq5
      generalize goodN (gpR ns k) = N at *
      have hk60 : (k : Int) ≤ 60 := by omega
      go_wp2_with fail
      refine wp_region_held_drew (S := fun w' => Has w' w.heap.size (gpR ns k) 24 ∧ Kept w w') (by kernel_rfl) ?_ (fun hHeld => ?_)
      · exact ⟨G1.drew, GB.out.drewN 1⟩
      (refine wpAnyH_take (i := 0) (v := ?_) rfl (by kernel_rfl) (by kernel_rfl) (by kernel_rfl) (fun _ _ _ h => h) (Or.inl ⟨by rfl, ?_⟩) hHeld ?_; rotate_left; (· (intro w' hSw; go_simp; try with_reducible rfl)); (try simp only [List.getElem_toArray, List.getElem_cons_zero, List.getElem_cons_succ, Act.put, List.setIfInBounds_toArray, List.set_cons_zero, List.set_cons_succ])); (refine wpAnyH_take (i := 1) (v := ?_) rfl (by kernel_rfl) (by kernel_rfl) (by kernel_rfl) (fun _ _ _ h => h) (Or.inl ⟨by rfl, ?_⟩) hHeld ?_; rotate_left; (· (intro w' hSw; go_simp; try with_reducible rfl)); (try simp only [List.getElem_toArray, List.getElem_cons_zero, List.getElem_cons_succ, Act.put, List.setIfInBounds_toArray, List.set_cons_zero, List.set_cons_succ]))
      (refine wpAnyH_take (i := 2) (v := .slice (some ⟨b5, 0, none⟩) k k) rfl (by kernel_rfl) (by kernel_rfl) (by kernel_rfl) (fun _ _ _ h => h) (Or.inl ⟨by rfl, ?_⟩) hHeld ?_; (· (intro w' hSw; have q := hk60; clear hSw; go_simp; try with_reducible rfl)); (try simp only [List.getElem_toArray, List.getElem_cons_zero, List.getElem_cons_succ, Act.put, List.setIfInBounds_toArray, List.set_cons_zero, List.set_cons_succ]))
      (refine wpAnyH_take (i := 3) (v := _) rfl (by kernel_rfl) (by kernel_rfl) (by kernel_rfl) (fun _ _ _ h => h) (yieldsIf_load_mid (by rfl) 27 _ rfl _ _ rfl (ints (gpR ns k)) _ (fun w' hSw => hSw.1.holds.range) Try.underlying27 rfl (hi1)) hHeld ?_; (try simp only [List.getElem_toArray, List.getElem_cons_zero, List.getElem_cons_succ, Act.put, List.setIfInBounds_toArray, List.set_cons_zero, List.set_cons_succ]))
      (refine wpAnyH_take (i := 4) (v := ?_) rfl (by kernel_rfl) (by kernel_rfl) (by kernel_rfl) (fun _ _ _ h => h) (Or.inl ⟨by rfl, ?_⟩) hHeld ?_; rotate_left; (· (intro w' hSw; go_simp; try with_reducible rfl)); (try simp only [List.getElem_toArray, List.getElem_cons_zero, List.getElem_cons_succ, Act.put, List.setIfInBounds_toArray, List.set_cons_zero, List.set_cons_succ]))
      (refine wpAnyH_ready (rs := [5]) (by kernel_rfl) (by simp) ?_; refine AllReadyH.cons (o := _) rfl (fun K hK => ?_) AllReadyH.nil; (simp only [List.getElem_toArray, List.getElem_cons_zero, List.getElem_cons_succ, Region.wanted, if_true]))
      refine wp_store_mid _ _ _ rfl _ _ (ints (gpR ns k)).toArray rfl rfl (by simpa [l2] using GZ.there) (by simpa [l2] using hi0) (all_oneCell_toArray (ints_one _)) ?_
      (try simp only [List.getElem_toArray, List.getElem_cons_zero, List.getElem_cons_succ, Act.put, List.setIfInBounds_toArray, List.set_cons_zero, List.set_cons_succ, List.toList_toArray])
      refine hK.out _ _ ⟨hHeld.1.putOther (b' := (w.heap.size + 1)) 0 (ints (gpR ns k)) (by omega), hHeld.2.puts (b := (w.heap.size + 1)) (by omega) 0 (ints (gpR ns k))⟩ (fun hHeld => ?_)
      clear hK K
      (refine wpAnyH_take (i := 6) (v := ?_) rfl (by kernel_rfl) (by kernel_rfl) (by kernel_rfl) (fun _ _ _ h => h) (Or.inl ⟨by rfl, ?_⟩) hHeld ?_; rotate_left; (· (intro w' hSw; go_simp; try with_reducible rfl)); (try simp only [List.getElem_toArray, List.getElem_cons_zero, List.getElem_cons_succ, Act.put, List.setIfInBounds_toArray, List.set_cons_zero, List.set_cons_succ]))
      refine wpAnyH_done (by kernel_rfl) ?_ _
      have S1 := GZ.drew.putAll (gpR ns k) hC24
      have S3 := Lib.hid (GP.out.row (b := w.heap.size + 1) ((G5.drew).putOther (b' := w.heap.size + 1) 0 (ints (gpR ns k)) (by omega)) (by omega) (by omega))
      have S2 := Lib.hid hHeld.2
      clear hHeld
      go_wp2_with fail
      exact bodyPost_ret (res_tct rfl _ _ (w.heap.size + 1) (gpR ns k) 24 _ _ (.bool true) rfl rfl rfl S1 Try.underlying27 rfl (by kernel_rfl)) rfl ⟨_, by rw [E1.out.2.2, EN.out, HV.out], by rw [E1.out.1, E1.out.2.1, EN.out]; exact S3.out, S2.out⟩
end Go.Proofs.Ytmhkjakgdfadbab.base
