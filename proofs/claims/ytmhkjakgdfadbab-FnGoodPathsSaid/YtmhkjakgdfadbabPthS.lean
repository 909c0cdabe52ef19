/-
  The path of first good pours, on the model's side, walked.
-/
import Derived.Test.YtmhkjakgdfadbabMostI
import Derived.Deep.Cut
namespace Go.Proofs.Ytmhkjakgdfadbab.base
open Go.ChangeShapes Go.WideShapes Go.ChangeAt Go.RowKit
set_option linter.unusedVariables false
set_option linter.unusedSimpArgs false

def gpNA (ns : List Int) : Nat := if vR ns = true then gpN ns else 0
def gpFA (ns : List Int) : List Int := if vR ns = true then gpF ns (gpN ns) else []
def gpRA (ns : List Int) : List Int := if vR ns = true then gpR ns (gpN ns) else z24
def PathPost (ns : List Int) (w : World) (e : Ending) (w' : World) : Prop := ∃ v : Value, e = .returned (.tuple #[v, .agg (ints (gpRA ns)).toArray, .bool (vR ns)]) ∧ Rw w' (w.heap.size + 1) v (gpNA ns) (gpFA ns) ∧ Kept w w'
theorem gpR_len {ns : List Int} (h : ns.length = 24) : ∀ k, (gpR ns k).length = 24
  | 0 => h
  | k + 1 => pourR_len (gpR_len h k) _ _
theorem gpRA_len {ns : List Int} (h : ns.length = 24) : (gpRA ns).length = 24 := by
  unfold gpRA; split
  · exact gpR_len h _
  · rfl
theorem gpNA_le (ns : List Int) : gpNA ns ≤ 60 := by
  unfold gpNA; split
  · exact stop_le _ 60
  · omega

set_option maxHeartbeats 3200000 in
set_option maxRecDepth 100000 in
theorem specPath (ns : List Int) (w : World) (h24 : ns.length = 24) :
    Calls Try.prog 7 #[row ns] w (PathPost ns w) := by
  obtain ⟨i0, hi, hz0, hz1, hz2⟩ := info_parts infoPair
  have hi0 : (Try.prog.info? 27).map (·.size) = some 24 := by kernel_rfl
  have HB := Lib.hid ((((kept_refl w).alloc (.cells (ints ns).toArray 27)).alloc (.cells #[.int .i64 0, .int .i64 0, .int .i64 0, .int .i64 0, .int .i64 0, .int .i64 0, .int .i64 0, .int .i64 0, .int .i64 0, .int .i64 0, .int .i64 0, .int .i64 0, .int .i64 0, .int .i64 0, .int .i64 0, .int .i64 0, .int .i64 0, .int .i64 0, .int .i64 0, .int .i64 0, .int .i64 0, .int .i64 0, .int .i64 0, .int .i64 0] 27)).alloc (.cells #[] 44))
  have H := ((Has.box w 27 h24 (by omega)).alloc (.cells #[.int .i64 0, .int .i64 0, .int .i64 0, .int .i64 0, .int .i64 0, .int .i64 0, .int .i64 0, .int .i64 0, .int .i64 0, .int .i64 0, .int .i64 0, .int .i64 0, .int .i64 0, .int .i64 0, .int .i64 0, .int .i64 0, .int .i64 0, .int .i64 0, .int .i64 0, .int .i64 0, .int .i64 0, .int .i64 0, .int .i64 0, .int .i64 0] 27)).alloc (.cells #[] 44)
  have Z := ((Has.zero24 (w.alloc (.cells (ints ns).toArray 27)) 27).at (size1 _ _)).alloc (.cells #[] 44)
  have P0 := Prs.none ((w.alloc (.cells (ints ns).toArray 27)).alloc (.cells #[.int .i64 0, .int .i64 0, .int .i64 0, .int .i64 0, .int .i64 0, .int .i64 0, .int .i64 0, .int .i64 0, .int .i64 0, .int .i64 0, .int .i64 0, .int .i64 0, .int .i64 0, .int .i64 0, .int .i64 0, .int .i64 0, .int .i64 0, .int .i64 0, .int .i64 0, .int .i64 0, .int .i64 0, .int .i64 0, .int .i64 0, .int .i64 0] 27)) (w.heap.size + 1 + 1) (by simp)
  rw [size1, size1] at P0
  have P1 := Lib.hid P0
  have hz24 : z24.length = 24 := rfl
  clear P0
  rw [row_ints]
  go_enter Try.func7, Try.ntmps7
  go_wp2_with (refine load_has rfl 27 _ rfl _ rfl ?_ 24 ?_ _ Try.underlying27 rfl ?_ ?_; rotate_left; (· (repeat (first | (with_reducible assumption) | ((with_reducible refine Has.box _ _ ?_ ?_) <;> (first | assumption | decide)) | (with_reducible refine Has.alloc ?_ _) | ((with_reducible refine Has.putOther ?_ _ _ ?_); rotate_left; omega; skip) | ((with_reducible refine Has.below ?_ ?_); rotate_left; assumption)))); (· kernel_rfl))
  refine (l2Rack_any ns _ h24).mono ?_
  rintro e w1 ⟨rfl, b1⟩
  replace H := H.below b1
  replace Z := Z.below b1
  replace P1 := Lib.hid (P1.out.below b1)
  replace HB := Lib.hid (HB.out.call b1)
  clear b1
  by_cases hv : vR ns = true
  rotate_left
  · have hf : vR ns = false := by simpa using hv
    have E1 : Hid (gpNA ns = 0 ∧ gpFA ns = [] ∧ gpRA ns = z24) := Lib.hid (by unfold gpNA gpFA gpRA; exact ⟨if_neg hv, if_neg hv, if_neg hv⟩)
    have S1 := Lib.hid (Z.putAll z24 rfl)
    have S2 := Lib.hid (HB.out.puts (b := w.heap.size + 1) (by omega) 0 (ints z24))
    have S3 := Lib.hid ((P1.out.rw.puts (w.heap.size + 1) 0 (ints z24) (fun h _ => absurd h (Nat.lt_irrefl 0))).mono (b' := w.heap.size + 1) (by omega))
    have HV := Lib.hid hf
    rw [hf]
    clear hf hv
    go_wp2_with (first | (refine build_law rfl 27 rfl _ buildRack ?_) | (refine store_at rfl 27 _ _ rfl _ _ rfl rfl ?_ 24 ?_ ?_ ?_ ?_; rotate_left; (· (repeat (first | (with_reducible assumption) | ((with_reducible refine Has.box _ _ ?_ ?_) <;> (first | assumption | decide)) | (with_reducible refine Has.alloc ?_ _) | ((with_reducible refine Has.putOther ?_ _ _ ?_); rotate_left; omega; skip) | ((with_reducible refine Has.below ?_ ?_); rotate_left; assumption)))); (· (first | assumption | rfl)); (· kernel_rfl)))
    exact bodyPost_ret (res_tct rfl _ _ (w.heap.size + 1) z24 24 _ _ (.bool false) rfl rfl rfl S1.out Try.underlying27 rfl (by kernel_rfl)) rfl ⟨.slice (some ⟨w.heap.size + 1 + 1, 0, none⟩) 0 0, by rw [E1.out.2.2, HV.out]; rfl, by rw [E1.out.1, E1.out.2.1]; exact S3.out, S2.out⟩
  rw [hv]
  have E1 : Hid (gpNA ns = gpN ns ∧ gpFA ns = gpF ns (gpN ns) ∧ gpRA ns = gpR ns (gpN ns)) := Lib.hid (by unfold gpNA gpFA gpRA; exact ⟨if_pos hv, if_pos hv, if_pos hv⟩)
  have FA := Lib.hid (fun k h => gp_facts h24 hv k h)
  have SH := Lib.hid (fun k h => gp_short h24 hv (k := k) h)
  have HV := Lib.hid hv
  have H24 := Lib.hid h24
  have S0 : Hid (stopW (gpMore ns) 0 = 0) := Lib.hid rfl
  clear hv
  go_wp2_with (refine load_has rfl 27 _ rfl _ rfl ?_ 24 ?_ _ Try.underlying27 rfl ?_ ?_; rotate_left; (· (repeat (first | (with_reducible assumption) | ((with_reducible refine Has.box _ _ ?_ ?_) <;> (first | assumption | decide)) | (with_reducible refine Has.alloc ?_ _) | ((with_reducible refine Has.putOther ?_ _ _ ?_); rotate_left; omega; skip) | ((with_reducible refine Has.below ?_ ?_); rotate_left; assumption)))); (· kernel_rfl))
  refine (l6Good_any ns _ h24 HV.out).mono ?_
  rintro e w2 ⟨v, rfl, q2, b2⟩
  replace H := H.below b2
  replace Z := Z.below b2
  replace P1 := Lib.hid (P1.out.below b2)
  replace HB := Lib.hid (HB.out.call b2)
  have R2 := Lib.hid (q2.rw.mono (b' := 0) (Nat.zero_le _))
  clear b2 q2 h24
  go_wp2_with fail
  go_loopg [5, 6] 60 (fun gk u v wr => ∃ k : Nat, gk = 60 - k ∧ Hid (stopW (gpMore ns) k = k) ∧ Has wr w.heap.size (gpR ns k) 24 ∧ Has wr (w.heap.size + 1) z24 24 ∧ Hid (Prs wr (w.heap.size + 1 + 1) u k (gpF ns k)) ∧ Hid (Rw wr 0 v (goodN (gpR ns k)) (goodF (gpR ns k))) ∧ Hid (Kept w wr))
  case atStart => exact ⟨0, rfl, S0, H, Z, P1, R2, HB⟩
  case round =>
    clear H Z P1 R2 HB S0
    obtain ⟨k, rfl, ST, G1, GZ, GP, GR, GB⟩ := hrel
    obtain ⟨hC24, hCV, _⟩ := FA.out k ST.out
    have hk := SH.out k ST.out
    have C24 := Lib.hid hC24
    have CV := Lib.hid hCV
    have hi1 : (Try.prog.info? 27).map (·.size) = some (ints (gpR ns k)).length := by rw [ints_len, hC24]; exact hi0
    obtain ⟨a, cap, rfl⟩ := GR.out.shape
    have hg36 := goodN_le (gpR ns k)
    by_cases hm : 0 < goodN (gpR ns k)
    · have GG := gp_good (ns := ns) (k := k) (by unfold gpMore; exact decide_eq_true hm)
      have SN := Lib.hid (stop_go ST.out (p := gpMore ns) (by unfold gpMore; exact decide_eq_true hm))
      have ok := goodP_ok GG
      have hl2 := pourR_len hC24 (gpX (gpR ns k)) (gpY (gpR ns k))
      have PV := (pour_facts hC24 ok).valid
      have EF : Hid (gpF ns (k + 1) = gpF ns k ++ [gpX (gpR ns k), gpY (gpR ns k)]) := Lib.hid rfl
      have ER : Hid (gpR ns (k + 1) = pourR (gpR ns k) (gpX (gpR ns k)) (gpY (gpR ns k))) := Lib.hid rfl
      have EX : (goodF (gpR ns k)).getD 0 0 = gpX (gpR ns k) := rfl
      have EY : (goodF (gpR ns k)).getD 1 0 = gpY (gpR ns k) := rfl
      obtain ⟨g, cap2, hv', _, hgl⟩ := GR.out.form hm
      injection hv' with ha _ hcap
      subst ha
      subst hcap
      have c0 : Hid (∀ w', Kept wr w' → w'.cell? ⟨g, 0, none⟩ = some (.int .i64 (gpX (gpR ns k)))) := Lib.hid (fun w' hw => (GR.out.below hw).cellX (by omega) EX)
      have c1 : Hid (∀ w', Kept wr w' → w'.cell? ⟨g, 1, none⟩ = some (.int .i64 (gpY (gpR ns k)))) := Lib.hid (fun w' hw => (GR.out.below hw).cellX (by omega) EY)
      have hmi : (0 : Int) < ((goodN (gpR ns k) : Nat) : Int) := by omega
      obtain ⟨p, q, hx, hy, p6, q6, hne, hc⟩ := pourOk_parts ok
      rw [hx, hy] at ok
      rw [hx, hy, pourR_T ok] at hl2 PV ER
      rw [hx, hy] at EF
      rw [hx] at c0
      rw [hy] at c1
      have R24 := hl2
      have HNE := Lib.hid hne
      have HC := Lib.hid hc
      have RV := Lib.hid PV
      clear hx hy hne hc ok GG EX EY PV hC24 hCV
      generalize hR : pourT (gpR ns k) p q = R at *
      have HR := Lib.hid hR
      clear hR
      have l2 : (ints R).length = 24 := by rw [ints_len]; exact R24
      have HR24 := Lib.hid R24
      generalize goodN (gpR ns k) = N at *
      generalize hC : gpR ns k = C at *
      clear hC
      have hG1 := G1.lt
      have hGZ := GZ.lt
      go_wp2_with fail
      refine wp_region_held_drew (S := fun w' => Kept wr w') (by kernel_rfl) ?_ (fun hHeld => ?_)
      · exact (kept_refl wr).drewN 1
      (refine wpAnyH_take (i := 1) (v := ?_) rfl (by kernel_rfl) (by kernel_rfl) (by kernel_rfl) (fun _ _ _ h => h) (Or.inl ⟨by rfl, ?_⟩) hHeld ?_; rotate_left; (· (intro w' hSw; go_simp; try with_reducible rfl)); (try simp only [List.getElem_toArray, List.getElem_cons_zero, List.getElem_cons_succ, Act.put, List.setIfInBounds_toArray, List.set_cons_zero, List.set_cons_succ])); (refine wpAnyH_take (i := 2) (v := ?_) rfl (by kernel_rfl) (by kernel_rfl) (by kernel_rfl) (fun _ _ _ h => h) (Or.inl ⟨by rfl, ?_⟩) hHeld ?_; rotate_left; (· (intro w' hSw; go_simp; try with_reducible rfl)); (try simp only [List.getElem_toArray, List.getElem_cons_zero, List.getElem_cons_succ, Act.put, List.setIfInBounds_toArray, List.set_cons_zero, List.set_cons_succ])); (refine wpAnyH_take (i := 3) (v := ?_) rfl (by kernel_rfl) (by kernel_rfl) (by kernel_rfl) (fun _ _ _ h => h) (Or.inl ⟨by rfl, ?_⟩) hHeld ?_; rotate_left; (· (intro w' hSw; go_simp; try with_reducible rfl)); (try simp only [List.getElem_toArray, List.getElem_cons_zero, List.getElem_cons_succ, Act.put, List.setIfInBounds_toArray, List.set_cons_zero, List.set_cons_succ])); (refine wpAnyH_take (i := 5) (v := ?_) rfl (by kernel_rfl) (by kernel_rfl) (by kernel_rfl) (fun _ _ _ h => h) (Or.inl ⟨by rfl, ?_⟩) hHeld ?_; rotate_left; (· (intro w' hSw; go_simp; try with_reducible rfl)); (try simp only [List.getElem_toArray, List.getElem_cons_zero, List.getElem_cons_succ, Act.put, List.setIfInBounds_toArray, List.set_cons_zero, List.set_cons_succ])); (refine wpAnyH_take (i := 6) (v := ?_) rfl (by kernel_rfl) (by kernel_rfl) (by kernel_rfl) (fun _ _ _ h => h) (Or.inl ⟨by rfl, ?_⟩) hHeld ?_; rotate_left; (· (intro w' hSw; go_simp; try with_reducible rfl)); (try simp only [List.getElem_toArray, List.getElem_cons_zero, List.getElem_cons_succ, Act.put, List.setIfInBounds_toArray, List.set_cons_zero, List.set_cons_succ])); (refine wpAnyH_take (i := 7) (v := ?_) rfl (by kernel_rfl) (by kernel_rfl) (by kernel_rfl) (fun _ _ _ h => h) (Or.inl ⟨by rfl, ?_⟩) hHeld ?_; rotate_left; (· (intro w' hSw; go_simp; try with_reducible rfl)); (try simp only [List.getElem_toArray, List.getElem_cons_zero, List.getElem_cons_succ, Act.put, List.setIfInBounds_toArray, List.set_cons_zero, List.set_cons_succ]))
      (refine wpAnyH_take (i := 0) (v := _) rfl (by kernel_rfl) (by kernel_rfl) (by kernel_rfl) (fun _ _ _ h => h) (yieldsIf_load_mid (by rfl) 27 _ rfl _ _ rfl (ints C) _ (fun w' hSw => (G1.below hSw).holds.range) Try.underlying27 rfl (hi1)) hHeld ?_; (try simp only [List.getElem_toArray, List.getElem_cons_zero, List.getElem_cons_succ, Act.put, List.setIfInBounds_toArray, List.set_cons_zero, List.set_cons_succ]))
      refine wpAnyH_take (i := 4) (v := .int .i64 (p : Int)) rfl (by kernel_rfl) (by kernel_rfl) (by kernel_rfl) (fun _ _ _ h => h) (Or.inl ⟨by rfl, ?_⟩) hHeld ?_
      · intro w' hSw
        have cc := c0.out w' hSw
        go_simp
      (try simp only [List.getElem_toArray, List.getElem_cons_zero, List.getElem_cons_succ, Act.put, List.setIfInBounds_toArray, List.set_cons_zero, List.set_cons_succ])
      refine wpAnyH_take (i := 8) (v := .int .i64 (q : Int)) rfl (by kernel_rfl) (by kernel_rfl) (by kernel_rfl) (fun _ _ _ h => h) (Or.inl ⟨by rfl, ?_⟩) hHeld ?_
      · intro w' hSw
        have cc := c1.out w' hSw
        go_simp
      (try simp only [List.getElem_toArray, List.getElem_cons_zero, List.getElem_cons_succ, Act.put, List.setIfInBounds_toArray, List.set_cons_zero, List.set_cons_succ])
      refine wpAnyH_ready (rs := [9, 13]) (by kernel_rfl) (by simp) ?_
      refine AllReadyH.cons (o := _) rfl (fun K hK => ?callFirst) (AllReadyH.cons (o := _) rfl (fun K hK => ?makeFirst) AllReadyH.nil)
      case' callFirst =>
        (simp only [List.getElem_toArray, List.getElem_cons_zero, List.getElem_cons_succ, Region.wanted, if_true])
        go_simp
        refine (l2Pour_any C p q _ C24.out CV.out p6 q6 HNE.out HC.out).mono ?_
        rintro e wp2 ⟨rfl, bp2⟩
        rw [HR.out]
        dsimp only
        (try simp only [List.getElem_toArray, List.getElem_cons_zero, List.getElem_cons_succ, Act.put, List.setIfInBounds_toArray, List.set_cons_zero, List.set_cons_succ])
        have KW := Kept.call hHeld bp2
        refine hK.out _ _ KW (fun hHeld => ?_)
        clear hK K bp2
        (refine wpAnyH_take (i := 10) (v := ?_) rfl (by kernel_rfl) (by kernel_rfl) (by kernel_rfl) (fun _ _ _ h => h) (Or.inl ⟨by rfl, ?_⟩) hHeld ?_; rotate_left; (· (intro w' hSw; go_simp; try with_reducible rfl)); (try simp only [List.getElem_toArray, List.getElem_cons_zero, List.getElem_cons_succ, Act.put, List.setIfInBounds_toArray, List.set_cons_zero, List.set_cons_succ])); (refine wpAnyH_take (i := 11) (v := ?_) rfl (by kernel_rfl) (by kernel_rfl) (by kernel_rfl) (fun _ _ _ h => h) (Or.inl ⟨by rfl, ?_⟩) hHeld ?_; rotate_left; (· (intro w' hSw; go_simp; try with_reducible rfl)); (try simp only [List.getElem_toArray, List.getElem_cons_zero, List.getElem_cons_succ, Act.put, List.setIfInBounds_toArray, List.set_cons_zero, List.set_cons_succ])); (refine wpAnyH_take (i := 12) (v := ?_) rfl (by kernel_rfl) (by kernel_rfl) (by kernel_rfl) (fun _ _ _ h => h) (Or.inl ⟨by rfl, ?_⟩) hHeld ?_; rotate_left; (· (intro w' hSw; go_simp; try with_reducible rfl)); (try simp only [List.getElem_toArray, List.getElem_cons_zero, List.getElem_cons_succ, Act.put, List.setIfInBounds_toArray, List.set_cons_zero, List.set_cons_succ]))
        (refine wpAnyH_ready (rs := [13]) (by kernel_rfl) (by simp) ?_; refine AllReadyH.cons (o := _) rfl (fun K hK => ?_) AllReadyH.nil; (simp only [List.getElem_toArray, List.getElem_cons_zero, List.getElem_cons_succ, Region.wanted, if_true]))
        go_simp
        have F9 := Has.zero24 wp2 27
        have h9 := KW.size
        replace KW := KW.alloc (.cells #[.int .i64 0, .int .i64 0, .int .i64 0, .int .i64 0, .int .i64 0, .int .i64 0, .int .i64 0, .int .i64 0, .int .i64 0, .int .i64 0, .int .i64 0, .int .i64 0, .int .i64 0, .int .i64 0, .int .i64 0, .int .i64 0, .int .i64 0, .int .i64 0, .int .i64 0, .int .i64 0, .int .i64 0, .int .i64 0, .int .i64 0, .int .i64 0] 27)
        refine hK.out _ _ KW (fun hHeld => ?_)
        clear hK K
        generalize wp2.alloc (.cells #[.int .i64 0, .int .i64 0, .int .i64 0, .int .i64 0, .int .i64 0, .int .i64 0, .int .i64 0, .int .i64 0, .int .i64 0, .int .i64 0, .int .i64 0, .int .i64 0, .int .i64 0, .int .i64 0, .int .i64 0, .int .i64 0, .int .i64 0, .int .i64 0, .int .i64 0, .int .i64 0, .int .i64 0, .int .i64 0, .int .i64 0, .int .i64 0] 27) = wp3 at *
        generalize wp2.heap.size = b9 at *
      case' makeFirst =>
        (simp only [List.getElem_toArray, List.getElem_cons_zero, List.getElem_cons_succ, Region.wanted, if_true])
        go_simp
        have F9 : Has _ wr.heap.size z24 24 := Has.zero24 wr.drew 27
        have KW := Kept.alloc hHeld (.cells #[.int .i64 0, .int .i64 0, .int .i64 0, .int .i64 0, .int .i64 0, .int .i64 0, .int .i64 0, .int .i64 0, .int .i64 0, .int .i64 0, .int .i64 0, .int .i64 0, .int .i64 0, .int .i64 0, .int .i64 0, .int .i64 0, .int .i64 0, .int .i64 0, .int .i64 0, .int .i64 0, .int .i64 0, .int .i64 0, .int .i64 0, .int .i64 0] 27)
        obtain ⟨b9, hb9⟩ : ∃ b : Nat, b = wr.heap.size := ⟨_, rfl⟩
        have h9 : wr.heap.size ≤ b9 := by omega
        rw [← hb9] at F9
        refine hK.out _ _ KW (fun hHeld => ?_)
        clear hK K
        (refine wpAnyH_ready (rs := [9]) (by kernel_rfl) (by simp) ?_; refine AllReadyH.cons (o := _) rfl (fun K hK => ?_) AllReadyH.nil; (simp only [List.getElem_toArray, List.getElem_cons_zero, List.getElem_cons_succ, Region.wanted, if_true]))
        go_simp
        refine (l2Pour_any C p q _ C24.out CV.out p6 q6 HNE.out HC.out).mono ?_
        rintro e wp3 ⟨rfl, bp2⟩
        rw [HR.out]
        dsimp only
        (try simp only [List.getElem_toArray, List.getElem_cons_zero, List.getElem_cons_succ, Act.put, List.setIfInBounds_toArray, List.set_cons_zero, List.set_cons_succ])
        replace F9 := F9.below bp2
        replace KW := KW.call bp2
        refine hK.out _ _ KW (fun hHeld => ?_)
        clear hK K bp2
        (refine wpAnyH_take (i := 10) (v := ?_) rfl (by kernel_rfl) (by kernel_rfl) (by kernel_rfl) (fun _ _ _ h => h) (Or.inl ⟨by rfl, ?_⟩) hHeld ?_; rotate_left; (· (intro w' hSw; go_simp; try with_reducible rfl)); (try simp only [List.getElem_toArray, List.getElem_cons_zero, List.getElem_cons_succ, Act.put, List.setIfInBounds_toArray, List.set_cons_zero, List.set_cons_succ])); (refine wpAnyH_take (i := 11) (v := ?_) rfl (by kernel_rfl) (by kernel_rfl) (by kernel_rfl) (fun _ _ _ h => h) (Or.inl ⟨by rfl, ?_⟩) hHeld ?_; rotate_left; (· (intro w' hSw; go_simp; try with_reducible rfl)); (try simp only [List.getElem_toArray, List.getElem_cons_zero, List.getElem_cons_succ, Act.put, List.setIfInBounds_toArray, List.set_cons_zero, List.set_cons_succ])); (refine wpAnyH_take (i := 12) (v := ?_) rfl (by kernel_rfl) (by kernel_rfl) (by kernel_rfl) (fun _ _ _ h => h) (Or.inl ⟨by rfl, ?_⟩) hHeld ?_; rotate_left; (· (intro w' hSw; go_simp; try with_reducible rfl)); (try simp only [List.getElem_toArray, List.getElem_cons_zero, List.getElem_cons_succ, Act.put, List.setIfInBounds_toArray, List.set_cons_zero, List.set_cons_succ]))
        rw [← hb9]
        clear hb9
      all_goals
        (refine wpAnyH_ready (rs := [14]) (by kernel_rfl) (by simp) ?_; refine AllReadyH.cons (o := _) rfl (fun K hK => ?_) AllReadyH.nil; (simp only [List.getElem_toArray, List.getElem_cons_zero, List.getElem_cons_succ, Region.wanted, if_true]))
        refine wp_store_mid _ _ _ rfl _ _ (ints R).toArray rfl rfl (by simpa [l2] using F9.there) (by simpa [l2] using hi0) (all_oneCell_toArray (ints_one _)) ?_
        (try simp only [List.getElem_toArray, List.getElem_cons_zero, List.getElem_cons_succ, Act.put, List.setIfInBounds_toArray, List.set_cons_zero, List.set_cons_succ, List.toList_toArray])
        replace F9 := F9.putAll R R24
        replace KW := KW.puts (b := b9) h9 0 (ints R)
        refine hK.out _ _ KW (fun hHeld => ?_)
        clear hK K
        (refine wpAnyH_take (i := 15) (v := ?_) rfl (by kernel_rfl) (by kernel_rfl) (by kernel_rfl) (fun _ _ _ h => h) (Or.inl ⟨by rfl, ?_⟩) hHeld ?_; rotate_left; (· (intro w' hSw; go_simp; try with_reducible rfl)); (try simp only [List.getElem_toArray, List.getElem_cons_zero, List.getElem_cons_succ, Act.put, List.setIfInBounds_toArray, List.set_cons_zero, List.set_cons_succ]))
        refine wpAnyH_done (by kernel_rfl) ?_ _
        clear hHeld
        generalize wp3.setCells b9 0 (ints R) = wp4 at *
        have hb9 : w.heap.size < b9 ∧ w.heap.size + 1 < b9 := by omega
        replace G1 := G1.below KW
        replace GZ := GZ.below KW
        have RG := Lib.hid (range_two (c0.out _ KW) (c1.out _ KW))
        have OLD := GP
        replace GP := Lib.hid (GP.out.below KW)
        replace GB := Lib.hid (GB.out.call KW)
        clear KW c0 c1 GR
        have hbs := GB.out.size
        have hbs2 := F9.lt
        go_upto_region 9 with (first | (refine wpList_load_mid rfl 44 _ rfl g 0 rfl [.int .i64 (p : Int), .int .i64 (q : Int)] _ RG.out Try.underlying44 rfl (by kernel_rfl) ?_) | (at_builtin; refine wpList_append_own _ rfl _ _ 29 rfl (w.heap.size + 1 + 1) 44 i0 (.agg #[.int .i64 0, .int .i64 0]) 2 16 Try.underlying29 hi hz0 hz1 hz2 rfl (by decide) _ k (ints (gpF ns k)) rfl (World.ownsRow.alloc GP.out _) ⟨wp4.heap.size, 0, none⟩ 1 1 [.int .i64 (p : Int), .int .i64 (q : Int)] rfl rfl (cell_two_new _ _ _ _) (fun x hx => by simp at hx; rcases hx with rfl | rfl <;> rfl) (by unfold maxLen; omega) (by omega) (by simp; omega) ?_; intro v' w3 hown' hgrow3 hnil3))
        have Q3 : Prs w3 (w.heap.size + 1 + 1) v' (k + 1) (gpF ns (k + 1)) := by
          rw [EF.out]; unfold Prs; rw [ints_app]; exact hown'
        have own : ∀ j, Value.ownBlock u5 = some j → w.heap.size + 1 + 1 ≤ j ∧ j < wp4.heap.size := fun j hj => World.ownsRow.lt GP.out j hj
        have F1 := (G1.alloc (.cells #[.int .i64 (p : Int), .int .i64 (q : Int)] 44)).grown hgrow3 (fun j hj => by have := (own j hj).1; omega)
        have FZ := (GZ.alloc (.cells #[.int .i64 (p : Int), .int .i64 (q : Int)] 44)).grown hgrow3 (fun j hj => by have := (own j hj).1; omega)
        have own9 : Value.ownBlock u5 ≠ some b9 := fun e => by
          have h1 := (World.ownsRow.lt OLD.out b9 e).2
          omega
        have N9 := (F9.alloc (.cells #[.int .i64 (p : Int), .int .i64 (q : Int)] 44)).grownNe hgrow3 (fun e => own9 e.symm)
        have FB := (GB.out.alloc (.cells #[.int .i64 (p : Int), .int .i64 (q : Int)] 44)).grown hgrow3 (by rw [size1]; omega) (fun j hj => by have := (own j hj).1; omega)
        have M1 : Hid (Has (w3.setCells w.heap.size 0 (ints R)) w.heap.size (gpR ns (k + 1)) 24) := Lib.hid (by rw [ER.out]; exact F1.putAll R R24)
        have M2 := Lib.hid (FZ.putOther (b' := w.heap.size) 0 (ints R) (by omega))
        have M3 := Lib.hid (Prs.aside Q3 w.heap.size 0 (ints R) (fun j hj => by have := (World.ownsRow.lt Q3 j hj).1; omega))
        have M4 := Lib.hid ((show Kept w w3 from FB).puts (b := w.heap.size) (Nat.le_refl _) 0 (ints R))
        clear own own9 hgrow3 hown' hnil3 Q3 FB GP GB G1 GZ F9 RG
        have M1b : Has (w3.setCells w.heap.size 0 (ints R)) w.heap.size R 24 := F1.putAll R R24
        go_wp2_with (first | (refine load_has rfl 27 _ rfl _ rfl ?_ 24 ?_ _ Try.underlying27 rfl ?_ ?_; rotate_left; (· (repeat (first | (with_reducible assumption) | ((with_reducible refine Has.box _ _ ?_ ?_) <;> (first | assumption | decide)) | (with_reducible refine Has.alloc ?_ _) | ((with_reducible refine Has.putOther ?_ _ _ ?_); rotate_left; omega; skip) | ((with_reducible refine Has.below ?_ ?_); rotate_left; assumption)))); (· kernel_rfl)) | (refine store_at rfl 27 _ _ rfl _ _ rfl rfl ?_ 24 ?_ ?_ ?_ ?_; rotate_left; (· (repeat (first | (with_reducible assumption) | ((with_reducible refine Has.box _ _ ?_ ?_) <;> (first | assumption | decide)) | (with_reducible refine Has.alloc ?_ _) | ((with_reducible refine Has.putOther ?_ _ _ ?_); rotate_left; omega; skip) | ((with_reducible refine Has.below ?_ ?_); rotate_left; assumption)))); (· (first | assumption | rfl)); (· kernel_rfl)))
        refine (l6Good_any R _ R24 RV.out).mono ?_
        rintro e w5 ⟨vg, rfl, q5, b5⟩
        have M1 := M1.out.below b5
        have M2 := M2.out.below b5
        replace M3 := Lib.hid (M3.out.below b5)
        replace M4 := Lib.hid (M4.out.call b5)
        have M5 : Hid (Rw w5 0 vg (goodN (gpR ns (k + 1))) (goodF (gpR ns (k + 1)))) := Lib.hid (by rw [ER.out]; exact q5.rw.mono (Nat.zero_le _))
        clear b5 q5
        go_wp2_with fail
        go_roundg (60 - (k + 1))
        case rel => exact ⟨k + 1, rfl, SN, M1, M2, M3, M5, M4⟩
        case measure => omega
    · have EN : Hid (gpN ns = k) := Lib.hid (stop_end ST.out (p := gpMore ns) (by unfold gpMore; exact decide_eq_false hm) 60 (by omega))
      have hm0 : goodN (gpR ns k) = 0 := by omega
      have l2 : (ints (gpR ns k)).length = 24 := by rw [ints_len]; exact hC24
      have hd0 : decide ((0 : Int) < ((goodN (gpR ns k) : Nat) : Int)) = false := by rw [hm0]; rfl
      go_wp2_with fail
      refine wp_region_held_drew (S := fun w' => Has w' w.heap.size (gpR ns k) 24 ∧ Kept w w') (by kernel_rfl) ?_ (fun hHeld => ?_)
      · exact ⟨G1.drew, GB.out.drewN 1⟩
      (refine wpAnyH_take (i := 0) (v := ?_) rfl (by kernel_rfl) (by kernel_rfl) (by kernel_rfl) (fun _ _ _ h => h) (Or.inl ⟨by rfl, ?_⟩) hHeld ?_; rotate_left; (· (intro w' hSw; go_simp; try with_reducible rfl)); (try simp only [List.getElem_toArray, List.getElem_cons_zero, List.getElem_cons_succ, Act.put, List.setIfInBounds_toArray, List.set_cons_zero, List.set_cons_succ])); (refine wpAnyH_take (i := 2) (v := ?_) rfl (by kernel_rfl) (by kernel_rfl) (by kernel_rfl) (fun _ _ _ h => h) (Or.inl ⟨by rfl, ?_⟩) hHeld ?_; rotate_left; (· (intro w' hSw; go_simp; try with_reducible rfl)); (try simp only [List.getElem_toArray, List.getElem_cons_zero, List.getElem_cons_succ, Act.put, List.setIfInBounds_toArray, List.set_cons_zero, List.set_cons_succ]))
      (refine wpAnyH_take (i := 1) (v := _) rfl (by kernel_rfl) (by kernel_rfl) (by kernel_rfl) (fun _ _ _ h => h) (yieldsIf_load_mid (by rfl) 27 _ rfl _ _ rfl (ints (gpR ns k)) _ (fun w' hSw => hSw.1.holds.range) Try.underlying27 rfl (hi1)) hHeld ?_; (try simp only [List.getElem_toArray, List.getElem_cons_zero, List.getElem_cons_succ, Act.put, List.setIfInBounds_toArray, List.set_cons_zero, List.set_cons_succ]))
      (refine wpAnyH_ready (rs := [3]) (by kernel_rfl) (by simp) ?_; refine AllReadyH.cons (o := _) rfl (fun K hK => ?_) AllReadyH.nil; (simp only [List.getElem_toArray, List.getElem_cons_zero, List.getElem_cons_succ, Region.wanted, if_true]))
      refine wp_store_mid _ _ _ rfl _ _ (ints (gpR ns k)).toArray rfl rfl (by simpa [l2] using GZ.there) (by simpa [l2] using hi0) (all_oneCell_toArray (ints_one _)) ?_
      (try simp only [List.getElem_toArray, List.getElem_cons_zero, List.getElem_cons_succ, Act.put, List.setIfInBounds_toArray, List.set_cons_zero, List.set_cons_succ, List.toList_toArray])
      refine hK.out _ _ ⟨hHeld.1.putOther (b' := (w.heap.size + 1)) 0 (ints (gpR ns k)) (by omega), hHeld.2.puts (b := (w.heap.size + 1)) (by omega) 0 (ints (gpR ns k))⟩ (fun hHeld => ?_)
      clear hK K
      (refine wpAnyH_take (i := 4) (v := ?_) rfl (by kernel_rfl) (by kernel_rfl) (by kernel_rfl) (fun _ _ _ h => h) (Or.inl ⟨by rfl, ?_⟩) hHeld ?_; rotate_left; (· (intro w' hSw; go_simp; try with_reducible rfl)); (try simp only [List.getElem_toArray, List.getElem_cons_zero, List.getElem_cons_succ, Act.put, List.setIfInBounds_toArray, List.set_cons_zero, List.set_cons_succ]))
      refine wpAnyH_done (by kernel_rfl) ?_ _
      have S1 := GZ.drew.putAll (gpR ns k) hC24
      have S3 := Lib.hid (((GP.out.rw.drew).puts (w.heap.size + 1) 0 (ints (gpR ns k)) (fun hn e => by have := (GP.out.rw.ownlt hn _ e).1; omega)).mono (b' := w.heap.size + 1) (by omega))
      have S2 := Lib.hid hHeld.2
      clear hHeld
      go_wp2_with fail
      exact bodyPost_ret (res_tct rfl _ _ (w.heap.size + 1) (gpR ns k) 24 _ _ (.bool true) rfl rfl rfl S1 Try.underlying27 rfl (by kernel_rfl)) rfl ⟨_, by rw [E1.out.2.2, EN.out, HV.out], by rw [E1.out.1, E1.out.2.1, EN.out]; exact S3.out, S2.out⟩
end Go.Proofs.Ytmhkjakgdfadbab.base
