/-
  The greatest number of layers that one pour moves, on both sides, walked.
-/
import Derived.Test.YtmhkjakgdfadbabPathI
namespace Go.Proofs.Ytmhkjakgdfadbab.base
open Go.ChangeShapes Go.WideShapes Go.ChangeAt Go.RowKit
set_option linter.unusedVariables false
set_option linter.unusedSimpArgs false

theorem res_tct {P : Program} {fn : Func} {p q r : Tmp} {T : TypeId} (h : fn.results = #[.tmp q, .cell p T, .tmp r]) (tmps : Array Value) (w : World) (b : Nat) (ns : List Int) (n : Nat) (d : TypeDesc) (v u : Value)
    (hp : tmps.getD p undef = .pointer (some ⟨b, 0, none⟩)) (hq : tmps.getD q undef = v) (hr : tmps.getD r undef = u) (H : Has w b ns n) (hu : P.underlying T = some d) (hd : d.isRow = true) (hi : (P.info? T).map (·.size) = some n) :
    (results fn tmps).run P w = .ok (.tuple #[v, .agg (ints ns).toArray, u]) w := by
  have hp' : tmps[p]?.getD undef = .pointer (some ⟨b, 0, none⟩) := by simpa using hp
  have hq' : tmps[q]?.getD undef = v := by simpa using hq
  have hr' : tmps[r]?.getD undef = u := by simpa using hr
  have hl := run_loadVar_mid (P := P) w b 0 T (ints ns) d H.holds.range hu hd (by rw [ints_len, H.len]; exact hi)
  simp [results, h, hp', hq', hr', asAddr, hl]
theorem build2 (w : World) : (Instr.build 44 #[]).run Try.prog w = .ok (.agg (ints [0, 0]).toArray) w := by kernel_rfl
theorem Has.pair0 (w : World) (T : TypeId) : Has (w.alloc (.cells #[.int .i64 0, .int .i64 0] T)) w.heap.size [0, 0] 2 := Has.box (ns := [0, 0]) w T rfl (by decide)
def MostPost (ns : List Int) (w : World) (e : Ending) (w' : World) : Prop := e = .returned (.tuple #[.int .i64 (mostA ns).1, .agg (ints [(mostA ns).2.1, (mostA ns).2.2]).toArray, .bool (decide (0 < (mostA ns).1))]) ∧ Kept w w'

set_option maxHeartbeats 3200000 in
set_option maxRecDepth 100000 in
theorem specMost (ns : List Int) (w : World) (h24 : ns.length = 24) :
    Calls Try.prog 19 #[row ns] w (MostPost ns w) := by
  have hip : ∀ x y : Int, (Try.prog.info? 44).map (·.size) = some (ints [x, y]).length := fun x y => by kernel_rfl
  have hi0 : (Try.prog.info? 27).map (·.size) = some 24 := by kernel_rfl
  have hi1 : (Try.prog.info? 27).map (·.size) = some (ints ns).length := by rw [ints_len, h24]; exact hi0
  have HB := Lib.hid ((((kept_refl w).alloc (.cells (ints ns).toArray 27)).alloc (.cells #[.int .i64 0, .int .i64 0] 44)).alloc (.cells #[.int .i64 0, .int .i64 0] 44))
  have H := ((Has.box w 27 h24 (by omega)).alloc (.cells #[.int .i64 0, .int .i64 0] 44)).alloc (.cells #[.int .i64 0, .int .i64 0] 44)
  have Z := ((Has.pair0 (w.alloc (.cells (ints ns).toArray 27)) 44).at (size1 _ _)).alloc (.cells #[.int .i64 0, .int .i64 0] 44)
  have Y := (Has.pair0 ((w.alloc (.cells (ints ns).toArray 27)).alloc (.cells #[.int .i64 0, .int .i64 0] 44)) 44).at (c := w.heap.size + 1 + 1) (by simp)
  have hz2 : ([0, 0] : List Int).length = 2 := rfl
  rw [row_ints]
  go_enter Try.func19, Try.ntmps19
  go_wp2_with (first | (refine build_law rfl 44 rfl _ build2 ?_) | (refine store_new rfl 44 _ _ rfl _ _ _ rfl _ (by simp) _ rfl rfl ?_ ?_ ?_; (· (first | assumption | rfl)); (· kernel_rfl)) | (refine load_has rfl 27 _ rfl _ rfl ?_ 24 ?_ _ Try.underlying27 rfl ?_ ?_; rotate_left; (· (repeat (first | (with_reducible assumption) | ((with_reducible refine Has.box _ _ ?_ ?_) <;> (first | assumption | decide)) | (with_reducible refine Has.alloc ?_ _) | ((with_reducible refine Has.putOther ?_ _ _ ?_); rotate_left; omega; skip) | ((with_reducible refine Has.below ?_ ?_); rotate_left; assumption)))); (· kernel_rfl)))
  refine (l2Rack_any ns _ h24).mono ?_
  rintro e w1 ⟨rfl, b1⟩
  replace H := H.below b1
  replace Z := Z.below b1
  replace Y := Y.below b1
  replace HB := Lib.hid (HB.out.call b1)
  have hs1 := b1.size
  rw [size1, size1, size1] at hs1
  clear b1
  by_cases hv : vR ns = true
  rotate_left
  · have hf : vR ns = false := by simpa using hv
    have E := Lib.hid (most_not hf)
    rw [hf]
    clear hf hv H hs1
    have Z2 := Z
    go_wp2_with fail
    refine wp_region_held_drew (S := fun w' => Has w' (w.heap.size + 1 + 1) [(0 : Int), 0] 2 ∧ Kept w w') (by kernel_rfl) ?_ (fun hHeld => ?_)
    · exact ⟨Y.drew, HB.out.drewN 1⟩
    (refine wpAnyH_take (i := 1) (v := ?_) rfl (by kernel_rfl) (by kernel_rfl) (by kernel_rfl) (fun _ _ _ h => h) (Or.inl ⟨by rfl, ?_⟩) hHeld ?_; rotate_left; (· (intro w' hSw; go_simp; try with_reducible rfl)); (try simp only [List.getElem_toArray, List.getElem_cons_zero, List.getElem_cons_succ, Act.put, List.setIfInBounds_toArray, List.set_cons_zero, List.set_cons_succ]))
    (refine wpAnyH_take (i := 0) (v := _) rfl (by kernel_rfl) (by kernel_rfl) (by kernel_rfl) (fun _ _ _ h => h) (yieldsIf_load_mid (by rfl) 44 _ rfl _ _ rfl (ints [0, 0]) _ (fun w' hSw => hSw.1.holds.range) Try.underlying44 rfl (hip 0 0)) hHeld ?_; (try simp only [List.getElem_toArray, List.getElem_cons_zero, List.getElem_cons_succ, Act.put, List.setIfInBounds_toArray, List.set_cons_zero, List.set_cons_succ]))
    (refine wpAnyH_ready (rs := [2]) (by kernel_rfl) (by simp) ?_; refine AllReadyH.cons (o := _) rfl (fun K hK => ?_) AllReadyH.nil; (simp only [List.getElem_toArray, List.getElem_cons_zero, List.getElem_cons_succ, Region.wanted, if_true]))
    refine wp_store_mid _ _ _ rfl _ _ (ints [0, 0]).toArray rfl rfl (Z.there) (by simpa using hip 0 0) (all_oneCell_toArray (ints_one _)) ?_
    (try simp only [List.getElem_toArray, List.getElem_cons_zero, List.getElem_cons_succ, Act.put, List.setIfInBounds_toArray, List.set_cons_zero, List.set_cons_succ, List.toList_toArray])
    refine hK.out _ _ ⟨hHeld.1.putOther (b' := (w.heap.size + 1)) 0 (ints [0, 0]) (by omega), hHeld.2.puts (b := (w.heap.size + 1)) (by omega) 0 (ints [0, 0])⟩ (fun hHeld => ?_)
    clear hK K
    (refine wpAnyH_take (i := 3) (v := ?_) rfl (by kernel_rfl) (by kernel_rfl) (by kernel_rfl) (fun _ _ _ h => h) (Or.inl ⟨by rfl, ?_⟩) hHeld ?_; rotate_left; (· (intro w' hSw; go_simp; try with_reducible rfl)); (try simp only [List.getElem_toArray, List.getElem_cons_zero, List.getElem_cons_succ, Act.put, List.setIfInBounds_toArray, List.set_cons_zero, List.set_cons_succ]))
    refine wpAnyH_done (by kernel_rfl) ?_ _
    have S1 := Z2.drew.putAll [0, 0] rfl
    have GB := Lib.hid hHeld.2
    clear hHeld
    go_wp2_with fail
    exact bodyPost_ret (res_tct rfl _ _ (w.heap.size + 1) [0, 0] 2 _ (.int .i64 0) (.bool false) rfl rfl rfl S1 Try.underlying44 rfl (by kernel_rfl)) rfl ⟨by rw [E.out]; rfl, GB.out⟩
  rw [hv]
  have EF : Hid (mostA ns = mostUp ns (poursF ns 36) (poursN ns 36)) := Lib.hid (by unfold mostA poursFA poursNA; rw [if_pos hv, if_pos hv])
  have VB := Lib.hid (fun k (hk : k < poursN ns 36) => pourk_ok hv hk)
  have PK := Lib.hid (fun k (hk : k < poursN ns 36) => pour_k ns k hk)
  have hN := poursN_le ns 36
  have MI := Lib.hid (fun k => most_in ns (poursF ns 36) k)
  have CV := Lib.hid hv
  have C24 := Lib.hid h24
  clear hv h24
  go_wp2_with (refine load_has rfl 27 _ rfl _ rfl ?_ 24 ?_ _ Try.underlying27 rfl ?_ ?_; rotate_left; (· (repeat (first | (with_reducible assumption) | ((with_reducible refine Has.box _ _ ?_ ?_) <;> (first | assumption | decide)) | (with_reducible refine Has.alloc ?_ _) | ((with_reducible refine Has.putOther ?_ _ _ ?_); rotate_left; omega; skip) | ((with_reducible refine Has.below ?_ ?_); rotate_left; assumption)))); (· kernel_rfl))
  refine (l2Pours_any ns _ C24.out CV.out).mono ?_
  rintro e w2 ⟨pv, rfl, q2, b2⟩
  replace H := H.below b2
  replace Z := Z.below b2
  replace Y := Y.below b2
  replace HB := Lib.hid (HB.out.call b2)
  obtain ⟨a, cap, rfl⟩ := prs_shape q2
  have R0 := Lib.hid (q2.rw.mono (b' := w.heap.size + 3) (by omega))
  clear b2 q2 hs1
  have M0 : Hid (mostUp ns (poursF ns 36) 0 = (0, 0, 0)) := Lib.hid rfl
  generalize hn : poursN ns 36 = n at *
  clear hn
  generalize hfs : poursF ns 36 = fs at *
  have HFS := Lib.hid hfs
  clear hfs
  go_wp2_with fail
  go_loopw [5, 8] (fun m i wr => ∃ k : Nat, k ≤ n ∧ i = .int .i64 k ∧ m = .int .i64 (mostUp ns fs k).1 ∧ Has wr w.heap.size ns 24 ∧ Has wr (w.heap.size + 1) [0, 0] 2 ∧ Has wr (w.heap.size + 1 + 1) [(mostUp ns fs k).2.1, (mostUp ns fs k).2.2] 2 ∧ Hid (Rw wr (w.heap.size + 3) (.slice a n cap) n fs) ∧ Hid (Kept w wr)) (fun _ i _ => n - (intOf i).toNat)
  case atStart => exact ⟨0, by omega, rfl, rfl, H, Z, Y, R0, HB⟩
  case round =>
    clear H Z Y R0 HB
    obtain ⟨k, hk, rfl, rfl, G1, GZ, GY, GR, GB⟩ := hrel
    have hm := MI.out k
    by_cases hlt : k < n
    · have ki : (k : Int) < ((n : Nat) : Int) := by omega
      have k0 : (0 : Int) ≤ (k : Int) := by omega
      obtain ⟨g, cap2, hv', _, _⟩ := GR.out.form (by omega)
      injection hv' with ha _ hcap
      subst ha
      subst hcap
      have hgl := GR.out.lt (by omega)
      have KY := Lib.hid (fun h => most_yes (ns := ns) (fs := fs) (k := k) h)
      have KN := Lib.hid (fun h => most_no (ns := ns) (fs := fs) (k := k) h)
      obtain ⟨hok, hne⟩ := VB.out k hlt
      obtain ⟨p6, q6, hc, f1, f2⟩ := PK.out k hlt
      generalize fstP ns k = p at *
      generalize sndP ns k = q at *
      rw [f1, f2] at hok KY KN
      have PA : pourA ns (p : Int) (q : Int) = (canN (tub ns p) (tub ns q) : Nat) := by unfold pourA; rw [if_pos hok]; simp
      have R24 := pourR_len C24.out (p : Int) (q : Int)
      rw [pourR_T hok] at R24
      rw [PA] at KY KN
      have C0 : Hid (∀ w', Kept wr w' → w'.cell? ⟨g, k * 2, none⟩ = some (.int .i64 (p : Int))) := Lib.hid (fun w' hw => (GR.out.below hw).cellX (by omega) f1)
      have C1 : Hid (∀ w', Kept wr w' → w'.cell? ⟨g, k * 2 + 1, none⟩ = some (.int .i64 (q : Int))) := Lib.hid (fun w' hw => (GR.out.below hw).cellX (by omega) f2)
      have hcb : canN (tub ns p) (tub ns q) ≤ 4 := by unfold canN; split <;> omega
      have HNE := Lib.hid hne
      have HC := Lib.hid hc
      clear hok hne hc f1 f2 PA
      generalize hR : pourT ns p q = R at *
      have HR := Lib.hid hR
      clear hR
      generalize hcn : canN (tub ns p) (tub ns q) = cn at *
      have HCN := Lib.hid hcn
      clear hcn
      generalize hmm : mostUp ns fs k = mm at *
      obtain ⟨m0, fx, fy⟩ := mm
      clear hmm
      have l2 : (ints R).length = 24 := by rw [ints_len]; exact R24
      dsimp only at *
      go_wp2_with fail
      refine wp_region_held_drew (S := fun w' => Kept wr w') (by kernel_rfl) ?_ (fun hHeld => ?_)
      · exact (kept_refl wr).drewN 1
      (refine wpAnyH_take (i := 1) (v := ?_) rfl (by kernel_rfl) (by kernel_rfl) (by kernel_rfl) (fun _ _ _ h => h) (Or.inl ⟨by rfl, ?_⟩) hHeld ?_; rotate_left; (· (intro w' hSw; go_simp; try with_reducible rfl)); (try simp only [List.getElem_toArray, List.getElem_cons_zero, List.getElem_cons_succ, Act.put, List.setIfInBounds_toArray, List.set_cons_zero, List.set_cons_succ])); (refine wpAnyH_take (i := 2) (v := ?_) rfl (by kernel_rfl) (by kernel_rfl) (by kernel_rfl) (fun _ _ _ h => h) (Or.inl ⟨by rfl, ?_⟩) hHeld ?_; rotate_left; (· (intro w' hSw; go_simp; try with_reducible rfl)); (try simp only [List.getElem_toArray, List.getElem_cons_zero, List.getElem_cons_succ, Act.put, List.setIfInBounds_toArray, List.set_cons_zero, List.set_cons_succ])); (refine wpAnyH_take (i := 3) (v := ?_) rfl (by kernel_rfl) (by kernel_rfl) (by kernel_rfl) (fun _ _ _ h => h) (Or.inl ⟨by rfl, ?_⟩) hHeld ?_; rotate_left; (· (intro w' hSw; go_simp; try with_reducible rfl)); (try simp only [List.getElem_toArray, List.getElem_cons_zero, List.getElem_cons_succ, Act.put, List.setIfInBounds_toArray, List.set_cons_zero, List.set_cons_succ])); (refine wpAnyH_take (i := 4) (v := ?_) rfl (by kernel_rfl) (by kernel_rfl) (by kernel_rfl) (fun _ _ _ h => h) (Or.inl ⟨by rfl, ?_⟩) hHeld ?_; rotate_left; (· (intro w' hSw; go_simp; try with_reducible rfl)); (try simp only [List.getElem_toArray, List.getElem_cons_zero, List.getElem_cons_succ, Act.put, List.setIfInBounds_toArray, List.set_cons_zero, List.set_cons_succ])); (refine wpAnyH_take (i := 6) (v := ?_) rfl (by kernel_rfl) (by kernel_rfl) (by kernel_rfl) (fun _ _ _ h => h) (Or.inl ⟨by rfl, ?_⟩) hHeld ?_; rotate_left; (· (intro w' hSw; go_simp; try with_reducible rfl)); (try simp only [List.getElem_toArray, List.getElem_cons_zero, List.getElem_cons_succ, Act.put, List.setIfInBounds_toArray, List.set_cons_zero, List.set_cons_succ])); (refine wpAnyH_take (i := 7) (v := ?_) rfl (by kernel_rfl) (by kernel_rfl) (by kernel_rfl) (fun _ _ _ h => h) (Or.inl ⟨by rfl, ?_⟩) hHeld ?_; rotate_left; (· (intro w' hSw; go_simp; try with_reducible rfl)); (try simp only [List.getElem_toArray, List.getElem_cons_zero, List.getElem_cons_succ, Act.put, List.setIfInBounds_toArray, List.set_cons_zero, List.set_cons_succ])); (refine wpAnyH_take (i := 8) (v := ?_) rfl (by kernel_rfl) (by kernel_rfl) (by kernel_rfl) (fun _ _ _ h => h) (Or.inl ⟨by rfl, ?_⟩) hHeld ?_; rotate_left; (· (intro w' hSw; go_simp; try with_reducible rfl)); (try simp only [List.getElem_toArray, List.getElem_cons_zero, List.getElem_cons_succ, Act.put, List.setIfInBounds_toArray, List.set_cons_zero, List.set_cons_succ])); (refine wpAnyH_take (i := 9) (v := ?_) rfl (by kernel_rfl) (by kernel_rfl) (by kernel_rfl) (fun _ _ _ h => h) (Or.inl ⟨by rfl, ?_⟩) hHeld ?_; rotate_left; (· (intro w' hSw; go_simp; try with_reducible rfl)); (try simp only [List.getElem_toArray, List.getElem_cons_zero, List.getElem_cons_succ, Act.put, List.setIfInBounds_toArray, List.set_cons_zero, List.set_cons_succ]))
      (refine wpAnyH_take (i := 0) (v := _) rfl (by kernel_rfl) (by kernel_rfl) (by kernel_rfl) (fun _ _ _ h => h) (yieldsIf_load_mid (by rfl) 27 _ rfl _ _ rfl (ints ns) _ (fun w' hSw => (G1.below hSw).holds.range) Try.underlying27 rfl (hi1)) hHeld ?_; (try simp only [List.getElem_toArray, List.getElem_cons_zero, List.getElem_cons_succ, Act.put, List.setIfInBounds_toArray, List.set_cons_zero, List.set_cons_succ]))
      refine wpAnyH_take (i := 5) (v := .int .i64 (p : Int)) rfl (by kernel_rfl) (by kernel_rfl) (by kernel_rfl) (fun _ _ _ h => h) (Or.inl ⟨by rfl, ?_⟩) hHeld ?_
      · intro w' hSw
        have cc := C0.out w' hSw
        go_simp
      (try simp only [List.getElem_toArray, List.getElem_cons_zero, List.getElem_cons_succ, Act.put, List.setIfInBounds_toArray, List.set_cons_zero, List.set_cons_succ])
      refine wpAnyH_take (i := 10) (v := .int .i64 (q : Int)) rfl (by kernel_rfl) (by kernel_rfl) (by kernel_rfl) (fun _ _ _ h => h) (Or.inl ⟨by rfl, ?_⟩) hHeld ?_
      · intro w' hSw
        have cc := C1.out w' hSw
        go_simp
      (try simp only [List.getElem_toArray, List.getElem_cons_zero, List.getElem_cons_succ, Act.put, List.setIfInBounds_toArray, List.set_cons_zero, List.set_cons_succ])
      refine wpAnyH_ready (rs := [11, 15]) (by kernel_rfl) (by simp) ?_
      refine AllReadyH.cons (o := _) rfl (fun K hK => ?callFirst) (AllReadyH.cons (o := _) rfl (fun K hK => ?makeFirst) AllReadyH.nil)
      case' callFirst =>
        (simp only [List.getElem_toArray, List.getElem_cons_zero, List.getElem_cons_succ, Region.wanted, if_true])
        go_simp
        refine (l2Pour_any ns p q _ C24.out CV.out p6 q6 HNE.out (by rw [HCN.out]; exact HC.out)).mono ?_
        rintro e wp2 ⟨rfl, bp2⟩
        rw [HR.out, HCN.out]
        dsimp only
        (try simp only [List.getElem_toArray, List.getElem_cons_zero, List.getElem_cons_succ, Act.put, List.setIfInBounds_toArray, List.set_cons_zero, List.set_cons_succ])
        have KW := Kept.call hHeld bp2
        refine hK.out _ _ KW (fun hHeld => ?_)
        clear hK K bp2
        (refine wpAnyH_take (i := 12) (v := ?_) rfl (by kernel_rfl) (by kernel_rfl) (by kernel_rfl) (fun _ _ _ h => h) (Or.inl ⟨by rfl, ?_⟩) hHeld ?_; rotate_left; (· (intro w' hSw; go_simp; try with_reducible rfl)); (try simp only [List.getElem_toArray, List.getElem_cons_zero, List.getElem_cons_succ, Act.put, List.setIfInBounds_toArray, List.set_cons_zero, List.set_cons_succ])); (refine wpAnyH_take (i := 13) (v := ?_) rfl (by kernel_rfl) (by kernel_rfl) (by kernel_rfl) (fun _ _ _ h => h) (Or.inl ⟨by rfl, ?_⟩) hHeld ?_; rotate_left; (· (intro w' hSw; go_simp; try with_reducible rfl)); (try simp only [List.getElem_toArray, List.getElem_cons_zero, List.getElem_cons_succ, Act.put, List.setIfInBounds_toArray, List.set_cons_zero, List.set_cons_succ])); (refine wpAnyH_take (i := 14) (v := ?_) rfl (by kernel_rfl) (by kernel_rfl) (by kernel_rfl) (fun _ _ _ h => h) (Or.inl ⟨by rfl, ?_⟩) hHeld ?_; rotate_left; (· (intro w' hSw; go_simp; try with_reducible rfl)); (try simp only [List.getElem_toArray, List.getElem_cons_zero, List.getElem_cons_succ, Act.put, List.setIfInBounds_toArray, List.set_cons_zero, List.set_cons_succ]))
        (refine wpAnyH_ready (rs := [15]) (by kernel_rfl) (by simp) ?_; refine AllReadyH.cons (o := _) rfl (fun K hK => ?_) AllReadyH.nil; (simp only [List.getElem_toArray, List.getElem_cons_zero, List.getElem_cons_succ, Region.wanted, if_true]))
        go_simp
        have F9 := Has.zero24 wp2 27
        have h9 := KW.size
        replace KW := KW.alloc (.cells #[.int .i64 0, .int .i64 0, .int .i64 0, .int .i64 0, .int .i64 0, .int .i64 0, .int .i64 0, .int .i64 0, .int .i64 0, .int .i64 0, .int .i64 0, .int .i64 0, .int .i64 0, .int .i64 0, .int .i64 0, .int .i64 0, .int .i64 0, .int .i64 0, .int .i64 0, .int .i64 0, .int .i64 0, .int .i64 0, .int .i64 0, .int .i64 0] 27)
        refine hK.out _ _ KW (fun hHeld => ?_)
        clear hK K
        generalize wp2.alloc (.cells #[.int .i64 0, .int .i64 0, .int .i64 0, .int .i64 0, .int .i64 0, .int .i64 0, .int .i64 0, .int .i64 0, .int .i64 0, .int .i64 0, .int .i64 0, .int .i64 0, .int .i64 0, .int .i64 0, .int .i64 0, .int .i64 0, .int .i64 0, .int .i64 0, .int .i64 0, .int .i64 0, .int .i64 0, .int .i64 0, .int .i64 0, .int .i64 0] 27) = wp3 at *
        generalize wp2.heap.size = b9 at *
      case' makeFirst =>
        (simp only [List.getElem_toArray, List.getElem_cons_zero, List.getElem_cons_succ, Region.wanted, if_true])
        go_simp
        have F9 : Has _ wr.heap.size z24 24 := Has.zero24 wr.drew 27
        have KW := Kept.alloc hHeld (.cells #[.int .i64 0, .int .i64 0, .int .i64 0, .int .i64 0, .int .i64 0, .int .i64 0, .int .i64 0, .int .i64 0, .int .i64 0, .int .i64 0, .int .i64 0, .int .i64 0, .int .i64 0, .int .i64 0, .int .i64 0, .int .i64 0, .int .i64 0, .int .i64 0, .int .i64 0, .int .i64 0, .int .i64 0, .int .i64 0, .int .i64 0, .int .i64 0] 27)
        obtain ⟨b9, hb9⟩ : ∃ b : Nat, b = wr.heap.size := ⟨_, rfl⟩
        have h9 : wr.heap.size ≤ b9 := by omega
        rw [← hb9] at F9
        refine hK.out _ _ KW (fun hHeld => ?_)
        clear hK K
        (refine wpAnyH_ready (rs := [11]) (by kernel_rfl) (by simp) ?_; refine AllReadyH.cons (o := _) rfl (fun K hK => ?_) AllReadyH.nil; (simp only [List.getElem_toArray, List.getElem_cons_zero, List.getElem_cons_succ, Region.wanted, if_true]))
        go_simp
        refine (l2Pour_any ns p q _ C24.out CV.out p6 q6 HNE.out (by rw [HCN.out]; exact HC.out)).mono ?_
        rintro e wp3 ⟨rfl, bp2⟩
        rw [HR.out, HCN.out]
        dsimp only
        (try simp only [List.getElem_toArray, List.getElem_cons_zero, List.getElem_cons_succ, Act.put, List.setIfInBounds_toArray, List.set_cons_zero, List.set_cons_succ])
        replace F9 := F9.below bp2
        replace KW := KW.call bp2
        refine hK.out _ _ KW (fun hHeld => ?_)
        clear hK K bp2
        (refine wpAnyH_take (i := 12) (v := ?_) rfl (by kernel_rfl) (by kernel_rfl) (by kernel_rfl) (fun _ _ _ h => h) (Or.inl ⟨by rfl, ?_⟩) hHeld ?_; rotate_left; (· (intro w' hSw; go_simp; try with_reducible rfl)); (try simp only [List.getElem_toArray, List.getElem_cons_zero, List.getElem_cons_succ, Act.put, List.setIfInBounds_toArray, List.set_cons_zero, List.set_cons_succ])); (refine wpAnyH_take (i := 13) (v := ?_) rfl (by kernel_rfl) (by kernel_rfl) (by kernel_rfl) (fun _ _ _ h => h) (Or.inl ⟨by rfl, ?_⟩) hHeld ?_; rotate_left; (· (intro w' hSw; go_simp; try with_reducible rfl)); (try simp only [List.getElem_toArray, List.getElem_cons_zero, List.getElem_cons_succ, Act.put, List.setIfInBounds_toArray, List.set_cons_zero, List.set_cons_succ])); (refine wpAnyH_take (i := 14) (v := ?_) rfl (by kernel_rfl) (by kernel_rfl) (by kernel_rfl) (fun _ _ _ h => h) (Or.inl ⟨by rfl, ?_⟩) hHeld ?_; rotate_left; (· (intro w' hSw; go_simp; try with_reducible rfl)); (try simp only [List.getElem_toArray, List.getElem_cons_zero, List.getElem_cons_succ, Act.put, List.setIfInBounds_toArray, List.set_cons_zero, List.set_cons_succ]))
        rw [← hb9]
        clear hb9
      all_goals
        (refine wpAnyH_ready (rs := [16]) (by kernel_rfl) (by simp) ?_; refine AllReadyH.cons (o := _) rfl (fun K hK => ?_) AllReadyH.nil; (simp only [List.getElem_toArray, List.getElem_cons_zero, List.getElem_cons_succ, Region.wanted, if_true]))
        refine wp_store_mid _ _ _ rfl _ _ (ints R).toArray rfl rfl (by simpa [l2] using F9.there) (by simpa [l2] using hi0) (all_oneCell_toArray (ints_one _)) ?_
        (try simp only [List.getElem_toArray, List.getElem_cons_zero, List.getElem_cons_succ, Act.put, List.setIfInBounds_toArray, List.set_cons_zero, List.set_cons_succ, List.toList_toArray])
        replace F9 := F9.putAll R R24
        replace KW := KW.puts (b := b9) h9 0 (ints R)
        refine hK.out _ _ KW (fun hHeld => ?_)
        clear hK K
        (refine wpAnyH_take (i := 17) (v := ?_) rfl (by kernel_rfl) (by kernel_rfl) (by kernel_rfl) (fun _ _ _ h => h) (Or.inl ⟨by rfl, ?_⟩) hHeld ?_; rotate_left; (· (intro w' hSw; go_simp; try with_reducible rfl)); (try simp only [List.getElem_toArray, List.getElem_cons_zero, List.getElem_cons_succ, Act.put, List.setIfInBounds_toArray, List.set_cons_zero, List.set_cons_succ]))
        refine wpAnyH_done (by kernel_rfl) ?_ _
        clear hHeld
        generalize wp3.setCells b9 0 (ints R) = wp4 at *
        replace G1 := G1.below KW
        replace GZ := GZ.below KW
        replace GY := GY.below KW
        have RG := Lib.hid (range_two (C0.out _ KW) (C1.out _ KW))
        replace GR := Lib.hid (GR.out.below KW)
        replace GB := Lib.hid (GB.out.call KW)
        clear KW C0 C1 F9
        by_cases hgt : m0 < (cn : Int)
        · have Z := Lib.hid (KY.out hgt)
          have M1 := G1.putOther (b' := w.heap.size + 1 + 1) 0 (ints [(p : Int), (q : Int)]) (by omega)
          have M2 := GZ.putOther (b' := w.heap.size + 1 + 1) 0 (ints [(p : Int), (q : Int)]) (by omega)
          have M3 := GY.putAll [(p : Int), (q : Int)] rfl
          have M4 := Lib.hid (GR.out.puts (w.heap.size + 1 + 1) 0 (ints [(p : Int), (q : Int)]) (fun _ e => by simp only [Value.ownBlock, Option.some.injEq] at e; omega))
          have M5 := Lib.hid (GB.out.puts (b := w.heap.size + 1 + 1) (by omega) 0 (ints [(p : Int), (q : Int)]))
          have ht := Lib.hid GY.there
          have hgt2 : decide (m0 < (cn : Int)) = true := by simpa using hgt
          clear G1 GZ GY GR GB
          go_wp2_with (first | (refine wpList_load_mid rfl 44 _ rfl g (k * 2) rfl (ints [(p : Int), (q : Int)]) _ RG.out Try.underlying44 rfl (by kernel_rfl) ?_) | (refine store_has rfl 44 _ _ rfl (w.heap.size + 1 + 1) 0 [(p : Int), (q : Int)] rfl rfl 2 rfl ht.out ?_ ?_; (· kernel_rfl)))
          go_roundw
          case rel => exact ⟨k + 1, by omega, by go_num, by rw [Z.out], M1, M2, by rw [Z.out]; exact M3, M4, M5⟩
          case measure => simp [intOf]; omega
        · have Z := Lib.hid (KN.out (by omega))
          have hgt2 : decide (m0 < (cn : Int)) = false := by simpa using hgt
          go_wp2_with fail
          go_roundw
          case rel => exact ⟨k + 1, by omega, by go_num, by rw [Z.out], G1, GZ, by rw [Z.out]; exact GY, GR, GB⟩
          case measure => simp [intOf]; omega
    · obtain rfl : k = n := by omega
      generalize hmm : mostUp ns fs k = mm at *
      obtain ⟨m0, fx, fy⟩ := mm
      have E : Hid (mostA ns = (m0, fx, fy)) := Lib.hid (by rw [EF.out])
      clear hmm
      dsimp only at *
      go_wp2_with fail
      go_wp2_with fail
      refine wp_region_held_drew (S := fun w' => Has w' (w.heap.size + 1 + 1) [fx, fy] 2 ∧ Kept w w') (by kernel_rfl) ?_ (fun hHeld => ?_)
      · exact ⟨GY.drew, GB.out.drewN 1⟩
      (refine wpAnyH_take (i := 0) (v := ?_) rfl (by kernel_rfl) (by kernel_rfl) (by kernel_rfl) (fun _ _ _ h => h) (Or.inl ⟨by rfl, ?_⟩) hHeld ?_; rotate_left; (· (intro w' hSw; go_simp; try with_reducible rfl)); (try simp only [List.getElem_toArray, List.getElem_cons_zero, List.getElem_cons_succ, Act.put, List.setIfInBounds_toArray, List.set_cons_zero, List.set_cons_succ])); (refine wpAnyH_take (i := 2) (v := ?_) rfl (by kernel_rfl) (by kernel_rfl) (by kernel_rfl) (fun _ _ _ h => h) (Or.inl ⟨by rfl, ?_⟩) hHeld ?_; rotate_left; (· (intro w' hSw; go_simp; try with_reducible rfl)); (try simp only [List.getElem_toArray, List.getElem_cons_zero, List.getElem_cons_succ, Act.put, List.setIfInBounds_toArray, List.set_cons_zero, List.set_cons_succ])); (refine wpAnyH_take (i := 3) (v := ?_) rfl (by kernel_rfl) (by kernel_rfl) (by kernel_rfl) (fun _ _ _ h => h) (Or.inl ⟨by rfl, ?_⟩) hHeld ?_; rotate_left; (· (intro w' hSw; go_simp; try with_reducible rfl)); (try simp only [List.getElem_toArray, List.getElem_cons_zero, List.getElem_cons_succ, Act.put, List.setIfInBounds_toArray, List.set_cons_zero, List.set_cons_succ]))
      (refine wpAnyH_take (i := 1) (v := _) rfl (by kernel_rfl) (by kernel_rfl) (by kernel_rfl) (fun _ _ _ h => h) (yieldsIf_load_mid (by rfl) 44 _ rfl _ _ rfl (ints [fx, fy]) _ (fun w' hSw => hSw.1.holds.range) Try.underlying44 rfl (hip fx fy)) hHeld ?_; (try simp only [List.getElem_toArray, List.getElem_cons_zero, List.getElem_cons_succ, Act.put, List.setIfInBounds_toArray, List.set_cons_zero, List.set_cons_succ]))
      (refine wpAnyH_take (i := 4) (v := ?_) rfl (by kernel_rfl) (by kernel_rfl) (by kernel_rfl) (fun _ _ _ h => h) (Or.inl ⟨by rfl, ?_⟩) hHeld ?_; rotate_left; (· (intro w' hSw; go_simp; try with_reducible rfl)); (try simp only [List.getElem_toArray, List.getElem_cons_zero, List.getElem_cons_succ, Act.put, List.setIfInBounds_toArray, List.set_cons_zero, List.set_cons_succ]))
      (refine wpAnyH_ready (rs := [5]) (by kernel_rfl) (by simp) ?_; refine AllReadyH.cons (o := _) rfl (fun K hK => ?_) AllReadyH.nil; (simp only [List.getElem_toArray, List.getElem_cons_zero, List.getElem_cons_succ, Region.wanted, if_true]))
      refine wp_store_mid _ _ _ rfl _ _ (ints [fx, fy]).toArray rfl rfl (GZ.there) (by simpa using hip fx fy) (all_oneCell_toArray (ints_one _)) ?_
      (try simp only [List.getElem_toArray, List.getElem_cons_zero, List.getElem_cons_succ, Act.put, List.setIfInBounds_toArray, List.set_cons_zero, List.set_cons_succ, List.toList_toArray])
      refine hK.out _ _ ⟨hHeld.1.putOther (b' := (w.heap.size + 1)) 0 (ints [fx, fy]) (by omega), hHeld.2.puts (b := (w.heap.size + 1)) (by omega) 0 (ints [fx, fy])⟩ (fun hHeld => ?_)
      clear hK K
      (refine wpAnyH_take (i := 6) (v := ?_) rfl (by kernel_rfl) (by kernel_rfl) (by kernel_rfl) (fun _ _ _ h => h) (Or.inl ⟨by rfl, ?_⟩) hHeld ?_; rotate_left; (· (intro w' hSw; go_simp; try with_reducible rfl)); (try simp only [List.getElem_toArray, List.getElem_cons_zero, List.getElem_cons_succ, Act.put, List.setIfInBounds_toArray, List.set_cons_zero, List.set_cons_succ]))
      refine wpAnyH_done (by kernel_rfl) ?_ _
      have S1 := GZ.drew.putAll [fx, fy] rfl
      have GB2 := Lib.hid hHeld.2
      clear hHeld
      go_wp2_with fail
      exact bodyPost_ret (res_tct rfl _ _ (w.heap.size + 1) [fx, fy] 2 _ (.int .i64 m0) (.bool (decide (0 < m0))) rfl rfl rfl S1 Try.underlying44 rfl (by kernel_rfl)) rfl ⟨by rw [E.out], GB2.out⟩
end Go.Proofs.Ytmhkjakgdfadbab.base
