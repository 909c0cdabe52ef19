/-
  A pour is drawn, walked; and what the law asks of a code's length.
-/
import Derived.Test.YtmhkjakgdfadbaaDrawR
import Derived.Test.YtmhkjakgdfadbaaPours
import Derived.Test.YtmhkjakgdfadbaaUseS
namespace Go.Proofs.Ytmhkjakgdfadbaa.base
open Go.ChangeShapes Go.WideShapes Go.ChangeAt Go.RowKit
open Go.Proofs.Ytmhkjakgdfadbaa.cur
set_option linter.unusedVariables false
set_option linter.unusedSimpArgs false

set_option maxHeartbeats 800000 in
theorem place_any (c k : Nat) (w : World) (h : Cur w c k) (hk : k < 1000000) :
    Calls Try.prog 70 #[.pointer (some ⟨c, 0, none⟩)] w fun e w' => ∃ z : Int, e = .returned (.int .i64 z) ∧ Cur w' c (k + 10) ∧ Moved c w w' := by
  have HC := Lib.hid h
  clear h
  go_enter Try.func70, Try.ntmps70
  go_wp2_with fail
  refine (one_any c _ 40 _ HC.out (by omega) (by omega) (by omega)).mono ?_
  rintro e w1 ⟨t, rfl, c1, m1⟩
  have C1 := Lib.hid c1
  have M1 := Lib.hid m1
  clear c1 m1
  cases t with
  | true =>
    go_wp2_with fail
    refine (among_at (fun _ => True) _ _ 3 _ _ _ _ rfl C1.out (by omega) rfl (by omega) (by omega) (anyInts _ rfl)).mono ?_
    rintro e w2 ⟨z, rfl, _, c2, m2⟩
    have C2 := Lib.hid (c2.mono (m := k + 10) (by omega))
    have M2 := Lib.hid (M1.out.trans m2)
    clear c2 m2
    go_wp2_with fail
    go_ret
    exact ⟨_, rfl, C2.out, M2.out⟩
  | false =>
    go_wp2_with fail
    refine (pick_any c _ 6 _ C1.out (by omega) (by omega) (by omega)).mono ?_
    rintro e w2 ⟨z, rfl, _, _, c2, m2⟩
    have C2 := Lib.hid (c2.mono (m := k + 10) (by omega))
    have M2 := Lib.hid (M1.out.trans m2)
    clear c2 m2
    go_wp2_with fail
    go_ret
    exact ⟨_, rfl, C2.out, M2.out⟩

theorem buildPair (x y : Int) (w : World) : (Instr.build 74 #[(0, .int .i64 x), (1, .int .i64 y)]).run Try.prog w = .ok (.agg (ints [x, y]).toArray) w := run_build w _ _ _ (by kernel_rfl)
theorem Prs.moved {c : Nat} {w w' : World} {b : Nat} {v : Value} {n : Nat} {fs : List Int} (h : Prs w b v n fs) (m : Moved c w w') (hc : c < b) : Prs w' b v n fs := moved_row h m hc
theorem Cur.call {c k : Nat} {w w' : World} (h : Cur w c k) (m : Below w.heap.size w w') : Cur w' c k := h.below m
theorem Moved.call {c : Nat} {w w' w2 : World} (h : Moved c w w') (m : Below w'.heap.size w' w2) : Moved c w w2 := h.trans (moved_of_below m)

set_option maxHeartbeats 1600000 in
set_option maxRecDepth 100000 in
theorem pour_any (c k : Nat) (ns : List Int) (w : World) (h24 : ns.length = 24) (h : Cur w c k) (hk : k < 900000) :
    Calls Try.prog 51 #[.pointer (some ⟨c, 0, none⟩), row ns] w fun e w' => ∃ x y : Int, e = .returned (.agg (ints [x, y]).toArray) ∧ Cur w' c (k + 100) ∧ Moved c w w' := by
  have hcw := h.lt
  have H0 := (Has.box w 27 h24 (by omega)).alloc (.cells #[.int .i64 0, .int .i64 0] 74)
  have R0 := (Has.box (ns := [0, 0]) (n := 2) (w.alloc (.cells (ints ns).toArray 27)) 74 rfl (by omega)).at (size1 _ _)
  have C0 := Lib.hid (Cur.alloc (Cur.alloc h (.cells (ints ns).toArray 27)) (.cells #[.int .i64 0, .int .i64 0] 74))
  have M0 := Lib.hid (Moved.alloc (Moved.alloc (Moved.refl c w) (.cells (ints ns).toArray 27)) (.cells #[.int .i64 0, .int .i64 0] 74))
  clear h
  rw [row_ints]
  go_enter Try.func51, Try.ntmps51
  go_wp2_with (refine load_has rfl 27 _ rfl _ rfl ?_ 24 ?_ _ Try.underlying27 rfl ?_ ?_; rotate_left; (· (repeat (first | (with_reducible assumption) | ((with_reducible refine Has.box _ _ ?_ ?_) <;> (first | assumption | decide)) | (with_reducible refine Has.alloc ?_ _) | ((with_reducible refine Has.putOther ?_ _ _ ?_); rotate_left; omega; skip) | ((with_reducible refine Has.below ?_ ?_); rotate_left; assumption)))); (· kernel_rfl))
  refine (l2Rack_any ns _ h24).mono ?_
  rintro e w1 ⟨rfl, b1⟩
  have H1 := H0.below b1
  have R1 := R0.below b1
  have C1 := Lib.hid (C0.out.below b1)
  have M1 := Lib.hid (Moved.call M0.out b1)
  clear H0 R0 C0 M0 b1
  have FIN : ∀ (W : World), Has W (w.heap.size + 1) [0, 0] 2 → Cur W c (k + 10) → Moved c w W → ∀ K : Ending → World → Prop, True := fun _ _ _ _ _ => trivial
  clear FIN
  by_cases hv : vR ns = true
  case' pos =>
    rw [hv]
    have HV := Lib.hid hv
    clear hv
    go_wp2_with fail
    refine (one_any c _ 3 _ C1.out (by omega) (by omega) (by omega)).mono ?_
    rintro e w2 ⟨t, rfl, c2, m2⟩
    have H2 := H1.moved m2 (by omega)
    have R2 := R1.moved m2 (by omega)
    have C2 := Lib.hid (c2.mono (m := k + 10) (by omega))
    have M2 := Lib.hid (M1.out.trans m2)
    clear H1 R1 C1 M1 c2 m2
    cases t
    case' false =>
      go_wp2_with (refine load_has rfl 27 _ rfl _ rfl ?_ 24 ?_ _ Try.underlying27 rfl ?_ ?_; rotate_left; (· (repeat (first | (with_reducible assumption) | ((with_reducible refine Has.box _ _ ?_ ?_) <;> (first | assumption | decide)) | (with_reducible refine Has.alloc ?_ _) | ((with_reducible refine Has.putOther ?_ _ _ ?_); rotate_left; omega; skip) | ((with_reducible refine Has.below ?_ ?_); rotate_left; assumption)))); (· kernel_rfl))
      refine (l2Pours_any ns _ h24 HV.out).mono ?_
      rintro e w3 ⟨v, rfl, p3, b3⟩
      have R3 := R2.below b3
      have C3 := Lib.hid (C2.out.below b3)
      have M3 := Lib.hid (Moved.call M2.out b3)
      have P3 := Lib.hid p3
      have hs2 := C2.out.lt
      have hN := poursN_le ns 36
      clear H2 R2 C2 M2 b3
      generalize poursN ns 36 = n at *
      generalize poursF ns 36 = fs at *
      rcases n with _ | n
      rotate_left
      case' succ =>
        obtain ⟨g, cap, rfl, hg, _⟩ := p3.form (by omega)
        clear p3
        have n0 : (0 : Int) < (n : Int) + 1 := by omega
        have n0' : (0 : Int) < ((n + 1 : Nat) : Int) := by omega
        go_wp2_with fail
        refine (pick_any c _ ((n : Int) + 1) _ C3.out (by omega) (by omega) (by omega)).mono ?_
        rintro e w4 ⟨z, rfl, z0, z1, c4, m4⟩
        obtain ⟨q, rfl⟩ : ∃ q : Nat, z = (q : Int) := ⟨z.toNat, by omega⟩
        have hq : q < n + 1 := by omega
        have P4 := P3.out.moved m4 (by omega)
        have R4 := R3.moved m4 (by omega)
        have RG : Hid (w4.rangeAt g (q * 2) (ints [fs.getD (q * 2) 0, fs.getD (q * 2 + 1) 0])) := Lib.hid (range_two (P4.cell (q * 2) (by omega)) (P4.cell (q * 2 + 1) (by omega)))
        generalize fs.getD (q * 2) 0 = x at *
        generalize fs.getD (q * 2 + 1) 0 = y at *
        have S1 := Lib.hid (R4.putAll [x, y] rfl)
        have S2 := Lib.hid (Cur.puts (c4.mono (m := k + 100) (by omega)) (b := w.heap.size + 1) 0 (ints [x, y]) (by omega))
        have S3 := Lib.hid (Moved.puts (M3.out.trans m4) (b := w.heap.size + 1) (by omega) 0 (ints [x, y]))
        clear P3 P4 R3 C3 M3 c4 m4
        have hl2 : ([x, y] : List Int).length = 2 := rfl
        go_wp2_with (first | (refine wpList_load_mid rfl 74 _ rfl g (q * 2) rfl (ints [x, y]) _ RG.out Try.underlying74 rfl (by kernel_rfl) ?_) | (refine store_at rfl 74 _ _ rfl _ _ rfl rfl ?_ 2 ?_ ?_ ?_ ?_; rotate_left; (· (repeat (first | (with_reducible assumption) | ((with_reducible refine Has.box _ _ ?_ ?_) <;> (first | assumption | decide)) | (with_reducible refine Has.alloc ?_ _) | ((with_reducible refine Has.putOther ?_ _ _ ?_); rotate_left; omega; skip) | ((with_reducible refine Has.below ?_ ?_); rotate_left; assumption)))); (· (first | assumption | rfl)); (· kernel_rfl)))
        exact bodyPost_ret (res_has (P := Try.prog) rfl _ _ (w.heap.size + 1) [x, y] 2 _ rfl S1.out Try.underlying74 rfl (by kernel_rfl)) rfl ⟨x, y, rfl, S2.out, S3.out⟩
      case' zero =>
        obtain ⟨a, cap, rfl⟩ := prs_zero p3
        clear p3 P3
        have RZ := R3
        have CZ := C3
        have MZ := M3
        go_wp2_with fail
    case' true =>
      have RZ := R2
      have CZ := C2
      have MZ := M2
      go_wp2_with fail
  case' neg =>
    have hf : vR ns = false := by simpa using hv
    rw [hf]
    clear hv hf
    have RZ := R1
    have CZ := Lib.hid (C1.out.mono (m := k + 10) (by omega))
    have MZ := M1
    go_wp2_with fail
  all_goals
    refine (place_any c _ _ CZ.out (by omega)).mono ?_
    rintro e w5 ⟨x, rfl, c5, m5⟩
    have R5 := RZ.moved m5 (by omega)
    have C5 := Lib.hid c5
    have M5 := Lib.hid (MZ.out.trans m5)
    clear RZ CZ MZ c5 m5
    go_wp2_with fail
    refine (place_any c _ _ C5.out (by omega)).mono ?_
    rintro e w6 ⟨y, rfl, c6, m6⟩
    have R6 := R5.moved m6 (by omega)
    have S1 := Lib.hid (R6.putAll [x, y] rfl)
    have S2 := Lib.hid (Cur.puts (c6.mono (m := k + 100) (by omega)) (b := w.heap.size + 1) 0 (ints [x, y]) (by omega))
    have S3 := Lib.hid (Moved.puts (M5.out.trans m6) (b := w.heap.size + 1) (by omega) 0 (ints [x, y]))
    have hl2 : ([x, y] : List Int).length = 2 := rfl
    have RT := R6.there
    clear R5 C5 M5 c6 m6
    go_wp2_with (refine guard_op (isStore 74) ?_ ?_; (· rfl); refine store_has rfl 74 _ _ rfl (w.heap.size + 1) 0 [x, y] ?_ ?_ 2 rfl RT ?_ ?_; (· kernel_rfl); (· kernel_rfl); (· kernel_rfl))
    exact bodyPost_ret (res_has (P := Try.prog) rfl _ _ (w.heap.size + 1) [x, y] 2 _ rfl S1.out Try.underlying74 rfl (by kernel_rfl)) rfl ⟨x, y, rfl, S2.out, S3.out⟩

/-- A pour of a rack is drawn of a code. -/
def DrawnPost (w : World) (e : Ending) (w' : World) : Prop := ∃ (ns : List Int) (x y : Int), e = .returned (.tuple #[.agg (ints ns).toArray, .int .i64 x, .int .i64 y]) ∧ ns.length = 24 ∧ Below w.heap.size w w'

set_option maxHeartbeats 1600000 in
set_option maxRecDepth 100000 in
theorem drawCanPour (a : Option Addr) (len cap : Nat) (w : World) (h : Code w a len) :
    Calls Try.prog 27 #[.slice a len cap] w (DrawnPost w) := by
  have B0 : Below w.heap.size w (w.alloc (.cells #[.int .i64 0, .int .i64 0, .int .i64 0, .int .i64 0, .int .i64 0, .int .i64 0, .int .i64 0, .int .i64 0, .int .i64 0, .int .i64 0, .int .i64 0, .int .i64 0, .int .i64 0, .int .i64 0, .int .i64 0, .int .i64 0, .int .i64 0, .int .i64 0, .int .i64 0, .int .i64 0, .int .i64 0, .int .i64 0, .int .i64 0, .int .i64 0] 27)) := (Below.refl _ _).alloc (Nat.le_refl _) _
  have R0 := (Has.zero24 w 27).alloc (.cells #[.slice a len cap, .int .i64 0, .int .u64 0] 72)
  have C0 := cur_new (cap := cap) (h.below B0)
  rw [size1] at C0
  have HC := Lib.hid C0
  have M0 := Lib.hid (((kept_refl w).alloc (.cells #[.int .i64 0, .int .i64 0, .int .i64 0, .int .i64 0, .int .i64 0, .int .i64 0, .int .i64 0, .int .i64 0, .int .i64 0, .int .i64 0, .int .i64 0, .int .i64 0, .int .i64 0, .int .i64 0, .int .i64 0, .int .i64 0, .int .i64 0, .int .i64 0, .int .i64 0, .int .i64 0, .int .i64 0, .int .i64 0, .int .i64 0, .int .i64 0] 27)).alloc (.cells #[.slice a len cap, .int .i64 0, .int .u64 0] 72))
  clear h B0 C0
  go_enter Try.func27, Try.ntmps27
  go_wp2_with fail
  refine (rack_any (w.heap.size + 1) _ _ HC.out (by omega)).mono ?_
  rintro e w1 ⟨ns, rfl, hl, c1, m1⟩
  have hs1 : w.heap.size + 1 + 1 ≤ w1.heap.size := by have := m1.size; simp at this; omega
  have R1 := (R0.moved m1 (by omega)).alloc (.cells (ints ns).toArray 27)
  have G1 := Has.box w1 27 hl (by omega)
  have C1 := Lib.hid (Cur.alloc c1 (.cells (ints ns).toArray 27))
  have M1 : Hid (Kept w (w1.alloc (.cells (ints ns).toArray 27))) := Lib.hid ((Moved.below M0.out m1 (by omega) M0.out.size).alloc (by omega) _)
  clear R0 HC M0 c1 m1
  go_wp2_with (first | (refine store_new rfl 27 _ _ rfl _ _ _ rfl _ rfl _ rfl rfl ?_ ?_ ?_; (· (first | assumption | rfl)); (· kernel_rfl)) | (refine load_has rfl 27 _ rfl _ rfl ?_ 24 ?_ _ Try.underlying27 rfl ?_ ?_; rotate_left; (· (repeat (first | (with_reducible assumption) | ((with_reducible refine Has.box _ _ ?_ ?_) <;> (first | assumption | decide)) | (with_reducible refine Has.alloc ?_ _) | ((with_reducible refine Has.putOther ?_ _ _ ?_); rotate_left; omega; skip) | ((with_reducible refine Has.below ?_ ?_); rotate_left; assumption)))); (· kernel_rfl)))
  refine (pour_any (w.heap.size + 1) _ ns _ hl C1.out (by omega)).mono ?_
  rintro e w2 ⟨x, y, rfl, c2, m2⟩
  have hs2 : w1.heap.size + 1 ≤ w2.heap.size := by have := m2.size; simp at this; omega
  have hl2 : ([x, y] : List Int).length = 2 := rfl
  have R2 := (R1.moved m2 (by omega)).alloc (.cells (ints [x, y]).toArray 74)
  have G2 := (G1.moved m2 (by omega)).alloc (.cells (ints [x, y]).toArray 74)
  have P2 := Has.box w2 74 hl2 (by omega)
  have M2 : Hid (Kept w (w2.alloc (.cells (ints [x, y]).toArray 74))) := Lib.hid ((Moved.below M1.out m2 (by omega) M1.out.size).alloc (by omega) _)
  clear R1 G1 C1 M1 c2 m2
  have cc0 := P2.cell 0 (by omega)
  have cc1 := P2.cell 1 (by omega)
  rw [List.getD_cons_zero] at cc0
  rw [List.getD_cons_succ, List.getD_cons_zero] at cc1
  have hne26 : w2.heap.size ≠ w.heap.size := by omega
  have q0 := Lib.hid cc0
  have q1 := Lib.hid cc1
  have l1 : (ints ns).length = 24 := by rw [ints_len]; exact hl
  have hi1 : (Try.prog.info? 27).map (·.size) = some (ints ns).length := by rw [l1]; kernel_rfl
  have S1 := Lib.hid (R2.drew.putAll ns hl)
  have S2 := Lib.hid ((M2.out.drewN 1).puts (b := w.heap.size) (Nat.le_refl _) 0 (ints ns))
  clear cc0 cc1
  go_wp2_with (first | (refine store_new rfl 74 _ _ rfl _ _ _ rfl _ rfl _ rfl rfl ?_ ?_ ?_; (· (first | assumption | rfl)); (· kernel_rfl)))
  refine wp_region_held_drew (S := fun w' => Has w' w1.heap.size ns 24 ∧ w'.cell? ⟨w2.heap.size, 0, none⟩ = some (.int .i64 x) ∧ w'.cell? ⟨w2.heap.size, 1, none⟩ = some (.int .i64 y)) (by kernel_rfl) ⟨G2.drew, q0.out, q1.out⟩ (fun hHeld => ?_)
  (refine wpAnyH_take (i := 1) (v := ?_) rfl (by kernel_rfl) (by kernel_rfl) (by kernel_rfl) (fun _ _ _ h => h) (Or.inl ⟨by rfl, ?_⟩) hHeld ?_; rotate_left; (· (intro w' hSw; go_simp; try with_reducible rfl)); (try simp only [List.getElem_toArray, List.getElem_cons_zero, List.getElem_cons_succ, Act.put, List.setIfInBounds_toArray, List.set_cons_zero, List.set_cons_succ])); (refine wpAnyH_take (i := 3) (v := ?_) rfl (by kernel_rfl) (by kernel_rfl) (by kernel_rfl) (fun _ _ _ h => h) (Or.inl ⟨by rfl, ?_⟩) hHeld ?_; rotate_left; (· (intro w' hSw; go_simp; try with_reducible rfl)); (try simp only [List.getElem_toArray, List.getElem_cons_zero, List.getElem_cons_succ, Act.put, List.setIfInBounds_toArray, List.set_cons_zero, List.set_cons_succ]))
  (refine wpAnyH_take (i := 0) (v := _) rfl (by kernel_rfl) (by kernel_rfl) (by kernel_rfl) (fun _ _ _ h => h) (yieldsIf_load_mid (by rfl) 27 _ rfl _ _ rfl (ints ns) _ (fun w' hSw => hSw.1.holds.range) Try.underlying27 rfl (hi1)) hHeld ?_; (try simp only [List.getElem_toArray, List.getElem_cons_zero, List.getElem_cons_succ, Act.put, List.setIfInBounds_toArray, List.set_cons_zero, List.set_cons_succ]))
  refine wpAnyH_take (i := 2) (v := .int .i64 x) rfl (by kernel_rfl) (by kernel_rfl) (by kernel_rfl) (fun _ _ _ h => h) (Or.inl ⟨by rfl, ?_⟩) hHeld ?_
  · intro w' hSw
    have q := hSw.2.1
    clear hSw
    go_simp
    try with_reducible rfl
  (try simp only [List.getElem_toArray, List.getElem_cons_zero, List.getElem_cons_succ, Act.put, List.setIfInBounds_toArray, List.set_cons_zero, List.set_cons_succ])
  refine wpAnyH_take (i := 4) (v := .int .i64 y) rfl (by kernel_rfl) (by kernel_rfl) (by kernel_rfl) (fun _ _ _ h => h) (Or.inl ⟨by rfl, ?_⟩) hHeld ?_
  · intro w' hSw
    have q := hSw.2.2
    clear hSw
    go_simp
    try with_reducible rfl
  (try simp only [List.getElem_toArray, List.getElem_cons_zero, List.getElem_cons_succ, Act.put, List.setIfInBounds_toArray, List.set_cons_zero, List.set_cons_succ])
  (refine wpAnyH_ready (rs := [5]) (by kernel_rfl) (by simp) ?_; refine AllReadyH.cons (o := _) rfl (fun K hK => ?_) AllReadyH.nil; (simp only [List.getElem_toArray, List.getElem_cons_zero, List.getElem_cons_succ, Region.wanted, if_true]); refine wp_store_mid _ _ _ rfl _ _ (ints ns).toArray rfl rfl (by simpa [l1] using R2.drew.there) (by simpa [l1] using hi1) (all_oneCell_toArray (ints_one _)) ?_; (try simp only [List.getElem_toArray, List.getElem_cons_zero, List.getElem_cons_succ, Act.put, List.setIfInBounds_toArray, List.set_cons_zero, List.set_cons_succ, List.toList_toArray]); refine hK.out _ _ (⟨hHeld.1.putOther _ _ (by omega), (World.cell?_of_block (World.heap_setCells_other _ _ _ _ P2.lt hne26)).trans hHeld.2.1, (World.cell?_of_block (World.heap_setCells_other _ _ _ _ P2.lt hne26)).trans hHeld.2.2⟩) (fun hHeld => ?_); clear hK K)
  (refine wpAnyH_take (i := 6) (v := ?_) rfl (by kernel_rfl) (by kernel_rfl) (by kernel_rfl) (fun _ _ _ h => h) (Or.inl ⟨by rfl, ?_⟩) hHeld ?_; rotate_left; (· (intro w' hSw; go_simp; try with_reducible rfl)); (try simp only [List.getElem_toArray, List.getElem_cons_zero, List.getElem_cons_succ, Act.put, List.setIfInBounds_toArray, List.set_cons_zero, List.set_cons_succ])); (refine wpAnyH_take (i := 7) (v := ?_) rfl (by kernel_rfl) (by kernel_rfl) (by kernel_rfl) (fun _ _ _ h => h) (Or.inl ⟨by rfl, ?_⟩) hHeld ?_; rotate_left; (· (intro w' hSw; go_simp; try with_reducible rfl)); (try simp only [List.getElem_toArray, List.getElem_cons_zero, List.getElem_cons_succ, Act.put, List.setIfInBounds_toArray, List.set_cons_zero, List.set_cons_succ]))
  refine wpAnyH_done (by kernel_rfl) ?_ _
  clear hHeld G2 P2 R2
  go_wp2_with fail
  exact bodyPost_ret (res_has2 rfl _ _ w.heap.size ns 24 _ (.int .i64 x) (.int .i64 y) rfl rfl rfl S1.out Try.underlying27 rfl (by kernel_rfl)) rfl ⟨ns, x, y, rfl, hl, S2.out⟩

set_option maxHeartbeats 400000 in
theorem rBig_any (a : Option Addr) (len cap : Nat) (w : World) (h : len ≤ maxLen) :
    Calls Try.prog 4 #[.slice a len cap] w fun e w' => e = .returned (.bool (decide ((65536 : Int) < (len : Int)))) ∧ w = w' := by
  go_enter Try.func4, Try.ntmps4
  go_wp2_with fail
  go_ret
  exact ⟨rfl, rfl⟩
end Go.Proofs.Ytmhkjakgdfadbaa.base
