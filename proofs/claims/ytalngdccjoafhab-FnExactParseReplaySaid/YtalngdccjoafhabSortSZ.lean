/-
  Whether a rack is sorted, on the model's side, walked.
-/
/-
  Whether a rack is sorted, on the program's side, walked.
-/
import Derived.Test.YtalngdccjoafhabSortZ
import Derived.Test.YtalngdccjoafhabTubeWZ

section
namespace Go.Proofs.Ytalngdccjoafhab.base
open Go.ChangeShapes Go.WideShapes Go.ChangeAt Go.RowKit
set_option linter.unusedVariables false
set_option linter.unusedSimpArgs false

/-- One number more. -/
theorem ow_new {w0 w1 w3 : World} {c n x : _} {cs : List Int} {v v' : Value} {ns : List Int} {o : Obj} (GP : Ow w1 (c + 1) v n cs) (G : Has w1 c ns 24) (GB : Kept w0 w1) (hc : w0.heap.size ≤ c)
    (hown : w3.ownsRow (c + 1) 3 1 v' (n + 1) (ints cs ++ [.int .i64 x])) (hg : (w1.alloc o).grownBy w3 v.ownBlock) :
    Has w3 c ns 24 ∧ Ow w3 (c + 1) v' (n + 1) (cs ++ [x]) ∧ Kept w0 w3 := by
  have hown0 : ∀ k, v.ownBlock = some k → c + 1 ≤ k := fun k hk => (World.ownsRow.lt GP k hk).1
  refine ⟨(G.alloc o).grown hg hown0, ?_, (GB.alloc o).grown hg (GB.alloc o).size (fun j hj => by have := hown0 j hj; omega)⟩
  unfold Ow
  rw [ints_app]; exact hown

set_option maxHeartbeats 1600000 in
set_option maxRecDepth 100000 in
theorem l2Sorted_any (ns : List Int) (w : World) (h24 : ns.length = 24) (hv : vR ns = true) :
    Calls Try.prog 54 #[row ns] w fun e w' => e = .returned (.bool (sortedA ns)) ∧ Kept w w' := by
  obtain ⟨i0, hi, hz0, hz1, hz2⟩ := info_parts infoInt
  have HB := Lib.hid (((kept_refl w).alloc (.cells (ints ns).toArray 30)).alloc (.cells #[] 3))
  have H := (Has.box w 30 h24 (by omega)).alloc (.cells #[] 3)
  have P0 := Ow.none (w.alloc (.cells (ints ns).toArray 30)) (w.heap.size + 1) (by simp)
  rw [size1] at P0
  have P1 := Lib.hid P0
  rw [row_ints]
  clear P0
  go_enter Try.func54, Try.ntmps54
  go_wp2_with fail
  have H24 := Lib.hid h24
  have HV := Lib.hid hv
  clear h24 hv
  generalize ((w.alloc (.cells (ints ns).toArray 30)).alloc (.cells #[] 3)) = W at *
  go_loopw [3, 4, 5] (fun v i r wr => ∃ p : Nat, p ≤ 6 ∧ i = .int .i64 p ∧ Has wr w.heap.size ns 24 ∧ Hid (Ow wr (w.heap.size + 1) v (cols ns p).length (cols ns p)) ∧ Hid (∀ q, q < p → badT (cols ns q) (tub ns q) = false) ∧ Hid (Kept w wr)) (fun _ z _ _ => 6 - (intOf z).toNat)
  case atStart => exact ⟨0, by omega, rfl, H, P1, Lib.hid (fun q hq => by omega), HB⟩
  case round =>
    obtain ⟨p, hp, rfl, G1, GP, GN, GB⟩ := hrel
    by_cases hp6 : p < 6
    · have hpi : (p : Int) < 6 := by omega
      have h4 := tub_len ns p H24.out hp6
      have hvt := vR_tub HV.out p hp6
      have F := Lib.hid (sortFacts h4 hvt)
      have L4 := (tubeFacts h4 hvt).lay4
      have RF := Lib.hid (runFacts h4 hvt (lay (tub ns p)) L4)
      go_wp2_with (refine load_tub rfl 22 _ rfl _ (p) _ rfl ?_ ?_ ?_ ?_ _ Try.underlying22 rfl ?_ ?_; (· (first | rfl | omega)); rotate_left; (· (repeat (first | (with_reducible assumption) | ((with_reducible refine Has.box _ _ ?_ ?_) <;> (first | assumption | decide)) | (with_reducible refine Has.alloc ?_ _) | ((with_reducible refine Has.putOther ?_ _ _ ?_); rotate_left; omega; skip) | ((with_reducible refine Has.below ?_ ?_); rotate_left; assumption)))); (· omega); (· kernel_rfl))
      refine (l2Runs_any (tub ns p) _ h4 hvt).mono ?_
      rintro e w1 ⟨vr, rfl, q1, b1⟩
      have G2 := G1.below b1
      have GP2 := Lib.hid (GP.out.below b1)
      have GB2 := Lib.hid (GB.out.call b1)
      clear G1 GP GB b1
      have hcl := cols_len ns p
      obtain ⟨n, hn⟩ : ∃ n, n = runsN (tub ns p) (lay (tub ns p)) := ⟨_, rfl⟩
      rw [← hn] at q1
      have n4 : n ≤ 4 := by have := RF.out.small; omega
      have HN := Lib.hid hn
      clear hn
      rcases n with _ | _ | n
      · obtain ⟨a, cap, rfl⟩ := own_zero q1
        have z := F.out.zero.1 HN.out.symm
        have GP3 : Hid (Ow w1 (w.heap.size + 1) u3 (cols ns (p + 1)).length (cols ns (p + 1))) := Lib.hid (by rw [cols_zero z]; exact GP2.out)
        have GN2 := Lib.hid (show ∀ q, q < p + 1 → badT (cols ns q) (tub ns q) = false from fun q hq => by
          by_cases hqp : q = p
          · subst hqp; exact bad_zero F.out z
          · exact GN.out q (by omega))
        clear q1 z
        go_wp2_with fail
        go_roundw
        case rel => exact ⟨p + 1, by omega, by go_num, G2, GP3, GN2, GB2⟩
        case measure => simp [intOf]; omega
      · obtain ⟨g, cap, rfl, _, _⟩ := q1.form (by omega)
        have c0 : w1.cell? ⟨g, 0, none⟩ = some (.int .i64 (topC (tub ns p))) := by
          rw [World.ownsRow.cellAt q1 0 (by omega), ← F.out.col HN.out.symm]
          exact ints_get _ _ (by have := RF.out.len; rw [← HN.out] at this; omega)
        have z := (F.out.one.1 HN.out.symm).1
        have B := Lib.hid (bad_one (cs := cols ns p) HN.out.symm)
        clear q1
        go_wp2_with fail
        refine (l1Has_any u3 _ (cols ns p) (topC (tub ns p)) _ _ GP2.out (by omega)).mono ?_
        rintro e w' ⟨rfl, rfl⟩
        by_cases hm : topC (tub ns p) ∈ cols ns p
        · have R := Lib.hid (sorted_no p hp6 (by rw [B.out, decide_eq_true hm]))
          rw [decide_eq_true hm]
          clear hm
          go_wp2_with fail
          go_ret
          exact ⟨ret_bool R.out.symm, GB2.out⟩
        · have GN2 := Lib.hid (show ∀ q, q < p + 1 → badT (cols ns q) (tub ns q) = false from fun q hq => by
            by_cases hqp : q = p
            · subst hqp; rw [B.out, decide_eq_false hm]
            · exact GN.out q (by omega))
          rw [decide_eq_false hm]
          have CN := Lib.hid (cols_new z)
          clear hm z
          have hbs := GB2.out.size
          generalize topC (tub ns p) = x at *
          go_wp2_with (first | (at_builtin; refine wpList_append_own _ rfl _ _ 114 rfl (w.heap.size + 1) 3 i0 (.int .i64 0) 1 8 Try.underlying114 hi hz0 hz1 hz2 rfl (by decide) _ (cols ns p).length (ints (cols ns p)) rfl (World.ownsRow.alloc GP2.out _) ⟨w'.heap.size, 0, none⟩ 1 1 [.int .i64 x] rfl rfl (cell_one_new _ _ _) (fun x hx => by simp at hx; subst hx; rfl) (by unfold maxLen; omega) (by omega) (by simp; omega) ?_; intro v' w3 hown' hgrow3 hnil3))
          obtain ⟨A1, A2, A3⟩ := ow_new GP2.out G2 GB2.out (Nat.le_refl _) hown' hgrow3
          have B2 : Hid (Ow w3 (w.heap.size + 1) v' (cols ns (p + 1)).length (cols ns (p + 1))) := Lib.hid (by rw [CN.out, List.length_append]; exact A2)
          have B3 := Lib.hid A3
          clear hown' hgrow3 hnil3 A2 A3
          go_roundw
          case rel => exact ⟨p + 1, by omega, by go_num, A1, B2, GN2, B3⟩
          case measure => simp [intOf]; omega
      · obtain ⟨g, cap, rfl, _, _⟩ := q1.form (by omega)
        have R := Lib.hid (sorted_no p hp6 (bad_many (by rw [← HN.out]; omega)))
        have m1 : (1 : Int) < ((n + 1 + 1 : Nat) : Int) := by omega
        have m2 : (1 : Int) < (n : Int) + 1 + 1 := by omega
        clear q1
        go_wp2_with fail
        go_ret
        exact ⟨ret_bool R.out.symm, GB2.out⟩
    · obtain rfl : p = 6 := by omega
      have R := Lib.hid (sorted_yes HV.out GN.out)
      go_wp2_with fail
      go_ret
      exact ⟨ret_bool R.out.symm, GB.out⟩

end Go.Proofs.Ytalngdccjoafhab.base
end

section
namespace Go.Proofs.Ytalngdccjoafhab.base
open Go.ChangeShapes Go.WideShapes Go.ChangeAt Go.RowKit
set_option linter.unusedVariables false
set_option linter.unusedSimpArgs false

/-- Which colors have been seen, as the program marks them. -/
def flags (cs : List Int) : List Value := (List.range 6).map fun c : Nat => .bool (decide ((c : Int) ∈ cs))
theorem flags_len (cs : List Int) : (flags cs).length = 6 := by unfold flags; rw [List.length_map, List.length_range]
theorem flags_get (cs : List Int) (c : Nat) (h : c < 6) : (flags cs)[c]? = some (.bool (decide ((c : Int) ∈ cs))) := by
  unfold flags; rw [List.getElem?_map, List.getElem?_range h]; rfl
theorem flags_set (cs : List Int) (c : Nat) (h : c < 6) : (flags cs).set c (.bool true) = flags (cs ++ [(c : Int)]) := by
  refine List.ext_getElem? fun j => ?_
  rw [List.getElem?_set]
  by_cases e : c = j
  · subst e
    rw [if_pos rfl, if_pos (by rw [flags_len]; exact h), flags_get _ _ h]; simp
  · rw [if_neg e]
    by_cases hj : j < 6
    · rw [flags_get _ _ hj, flags_get _ _ hj]
      congr 2
      rw [Bool.eq_iff_iff]
      simp only [decide_eq_true_eq, List.mem_append, List.mem_singleton]
      constructor
      · exact Or.inl
      · rintro (h | h)
        · exact h
        · omega
    · rw [List.getElem?_eq_none (by rw [flags_len]; omega), List.getElem?_eq_none (by rw [flags_len]; omega)]
theorem flags_nil : flags [] = [.bool false, .bool false, .bool false, .bool false, .bool false, .bool false] := by
  unfold flags; simp [List.range_succ]

set_option maxHeartbeats 1600000 in
set_option maxRecDepth 100000 in
theorem implSorted (ns : List Int) (w : World) (h24 : ns.length = 24) :
    Calls Try.prog 87 #[row ns] w fun e w' => e = .returned (.tuple #[.bool (sortedA ns), .bool (vR ns)]) ∧ Kept w w' := by
  have HB := Lib.hid ((kept_refl w).alloc (.cells (ints ns).toArray 30))
  have H := Has.box w 30 h24 (by omega)
  rw [row_ints]
  go_enter Try.func87, Try.ntmps87
  go_wp2_with (refine load_has rfl 30 _ rfl _ rfl ?_ 24 ?_ _ Try.underlying30 rfl ?_ ?_; rotate_left; (· (repeat (first | (with_reducible assumption) | ((with_reducible refine Has.box _ _ ?_ ?_) <;> (first | assumption | decide)) | (with_reducible refine Has.alloc ?_ _) | ((with_reducible refine Has.putOther ?_ _ _ ?_); rotate_left; omega; skip) | ((with_reducible refine Has.below ?_ ?_); rotate_left; assumption)))); (· kernel_rfl))
  refine (isRack_any ns _ h24).mono ?_
  rintro e w1 ⟨rfl, b1⟩
  have H1 := (H.below b1).alloc (.cells #[.bool false, .bool false, .bool false, .bool false, .bool false, .bool false] 140)
  have HB0 := HB.out.call b1
  have HB1 := Lib.hid (HB0.alloc (.cells #[.bool false, .bool false, .bool false, .bool false, .bool false, .bool false] 140))
  have hs1 := HB0.size
  have HF0 := Lib.hid HB0
  have FL : Holds (w1.alloc (.cells #[.bool false, .bool false, .bool false, .bool false, .bool false, .bool false] 140)) w1.heap.size (flags (cols ns 0)) := by
    have := Holds.new w1 #[.bool false, .bool false, .bool false, .bool false, .bool false, .bool false] 140
    rw [show cols ns 0 = [] from rfl, flags_nil]; exact this
  clear H HB b1 HB0
  by_cases hv : vR ns = true
  · rw [hv]
    have HV := Lib.hid hv
    have H24 := Lib.hid h24
    have FL0 := Lib.hid FL
    clear hv FL
    go_wp2_with (refine load_has rfl 23 _ rfl _ rfl ?_ 24 ?_ _ Try.underlying23 rfl ?_ ?_; rotate_left; (· (repeat (first | (with_reducible assumption) | ((with_reducible refine Has.box _ _ ?_ ?_) <;> (first | assumption | decide)) | (with_reducible refine Has.alloc ?_ _) | ((with_reducible refine Has.putOther ?_ _ _ ?_); rotate_left; omega; skip) | ((with_reducible refine Has.below ?_ ?_); rotate_left; assumption)))); (· kernel_rfl))
    clear h24 H1
    go_loopw [15] (fun i wr => ∃ p : Nat, p ≤ 6 ∧ i = .int .i64 p ∧ Hid (Holds wr w1.heap.size (flags (cols ns p))) ∧ Hid (∀ q, q < p → badT (cols ns q) (tub ns q) = false) ∧ Hid (Kept w wr)) (fun z _ => 6 - (intOf z).toNat)
    case atStart => exact ⟨0, by omega, rfl, FL0, Lib.hid (fun q hq => by omega), HB1⟩
    case round =>
      obtain ⟨p, hp, rfl, GF, GN, GB⟩ := hrel
      by_cases hp6 : p < 6
      · have hpi : (p : Int) < 6 := by omega
        have h4 := tub_len ns p H24.out hp6
        have hvt := vR_tub HV.out p hp6
        have F := Lib.hid (sortFacts h4 hvt)
        have TF := tubeFacts h4 hvt
        have C0 := Lib.hid TF.c0
        have C5 := Lib.hid TF.c5
        clear TF
        have g0 := indexTub ns p hp6
        have HT := (Has.box (wr.alloc (.cells (ints (tub ns p)).toArray 22)) 112 h4 (by omega)).at (size1 _ _)
        have GB2 := Lib.hid ((GB.out.alloc (.cells (ints (tub ns p)).toArray 22)).alloc (.cells (ints (tub ns p)).toArray 112))
        have GF2 := Lib.hid ((GF.out.alloc (.cells (ints (tub ns p)).toArray 22) (by rw [flags_len]; omega)).alloc (.cells (ints (tub ns p)).toArray 112) (by rw [flags_len]; omega))
        have hlw := GF.out.lt (by rw [flags_len]; omega)
        have hl2 : w1.heap.size < ((wr.alloc (.cells (ints (tub ns p)).toArray 22)).alloc (.cells (ints (tub ns p)).toArray 112)).heap.size := by simp; omega
        have HL2 := Lib.hid hl2
        clear GB hl2
        go_wp2_with (first | (refine store_new rfl 22 _ _ rfl _ _ _ rfl _ rfl _ rfl rfl ?_ ?_ ?_; (· (first | assumption | rfl)); (· kernel_rfl)) | (refine load_has rfl 22 _ rfl _ rfl ?_ 4 ?_ _ Try.underlying22 rfl ?_ ?_; rotate_left; (· (repeat (first | (with_reducible assumption) | ((with_reducible refine Has.box _ _ ?_ ?_) <;> (first | assumption | decide)) | (with_reducible refine Has.alloc ?_ _) | ((with_reducible refine Has.putOther ?_ _ _ ?_); rotate_left; omega; skip) | ((with_reducible refine Has.below ?_ ?_); rotate_left; assumption)))); (· kernel_rfl)) | (refine store_new rfl 112 _ _ rfl _ _ _ rfl _ (size1 _ _).symm _ rfl rfl ?_ ?_ ?_; (· (first | assumption | rfl)); (· kernel_rfl)) | (refine load_has rfl 112 _ rfl _ rfl ?_ 4 ?_ _ Try.underlying112 rfl ?_ ?_; rotate_left; (· (repeat (first | (with_reducible assumption) | ((with_reducible refine Has.box _ _ ?_ ?_) <;> (first | assumption | decide)) | (with_reducible refine Has.alloc ?_ _) | ((with_reducible refine Has.putOther ?_ _ _ ?_); rotate_left; omega; skip) | ((with_reducible refine Has.below ?_ ?_); rotate_left; assumption)))); (· kernel_rfl)))
        clear g0 GF
        refine (isEmpty_any (tub ns p) _ h4 hvt).mono ?_
        rintro e w2 ⟨rfl, b2⟩
        have HT2 := HT.below b2
        have GB3 := Lib.hid (GB2.out.call b2)
        have GF3 := Lib.hid (GF2.out.below b2 HL2.out)
        have hl3 := GF3.out.lt (by rw [flags_len]; omega)
        clear HT GB2 GF2 HL2 b2 hlw
        by_cases h0 : lay (tub ns p) = 0
        · have GF4 : Hid (Holds w2 w1.heap.size (flags (cols ns (p + 1)))) := Lib.hid (by rw [cols_zero h0]; exact GF3.out)
          have GN2 := Lib.hid (show ∀ q, q < p + 1 → badT (cols ns q) (tub ns q) = false from fun q hq => by
            by_cases hqp : q = p
            · subst hqp; exact bad_zero F.out h0
            · exact GN.out q (by omega))
          rw [decide_eq_true h0]
          clear h0
          go_wp2_with fail
          go_roundw
          case rel => exact ⟨p + 1, by omega, by go_num, GF4, GN2, GB3⟩
          case measure => simp [intOf]; omega
        · have NZ := Lib.hid h0
          rw [decide_eq_false h0]
          clear h0
          go_wp2_with (refine load_has rfl 112 _ rfl _ rfl ?_ 4 ?_ _ Try.underlying112 rfl ?_ ?_; rotate_left; (· (repeat (first | (with_reducible assumption) | ((with_reducible refine Has.box _ _ ?_ ?_) <;> (first | assumption | decide)) | (with_reducible refine Has.alloc ?_ _) | ((with_reducible refine Has.putOther ?_ _ _ ?_); rotate_left; omega; skip) | ((with_reducible refine Has.below ?_ ?_); rotate_left; assumption)))); (· kernel_rfl))
          refine (top_any (tub ns p) _ h4 hvt).mono ?_
          rintro e w3 ⟨rfl, b3⟩
          have HT3 := HT2.below b3
          have GB4 := Lib.hid (GB3.out.call b3)
          have GF4 := Lib.hid (GF3.out.below b3 hl3)
          have hl4 := GF4.out.lt (by rw [flags_len]; omega)
          clear HT2 GB3 GF3 hl3 b3
          go_wp2_with (refine load_has rfl 112 _ rfl _ rfl ?_ 4 ?_ _ Try.underlying112 rfl ?_ ?_; rotate_left; (· (repeat (first | (with_reducible assumption) | ((with_reducible refine Has.box _ _ ?_ ?_) <;> (first | assumption | decide)) | (with_reducible refine Has.alloc ?_ _) | ((with_reducible refine Has.putOther ?_ _ _ ?_); rotate_left; omega; skip) | ((with_reducible refine Has.below ?_ ?_); rotate_left; assumption)))); (· kernel_rfl))
          refine (isPlain_any (tub ns p) _ h4 hvt).mono ?_
          rintro e w4 ⟨rfl, b4⟩
          have GB5 := Lib.hid (GB4.out.call b4)
          have GF5 := Lib.hid (GF4.out.below b4 hl4)
          clear HT3 GB4 GF4 hl4 b4
          by_cases hpl : topN (tub ns p) = lay (tub ns p)
          · have one := F.out.one.2 ⟨NZ.out, hpl⟩
            have B := Lib.hid (bad_one (cs := cols ns p) one)
            have CN := Lib.hid (cols_new NZ.out)
            rw [decide_eq_true hpl]
            clear hpl one
            obtain ⟨c, hc⟩ : ∃ c : Nat, topC (tub ns p) = (c : Int) := ⟨(topC (tub ns p)).toNat, by have := C0.out; omega⟩
            have hc6 : c < 6 := by have := C5.out; omega
            have hci : (c : Int) < 6 := by omega
            rw [hc] at B CN
            rw [hc]
            have c1 := GF5.out.cellAt (flags_get (cols ns p) c hc6)
            have f1 := GF5.out.free c (by rw [flags_len]; exact hc6)
            by_cases hm : (c : Int) ∈ cols ns p
            · have R := Lib.hid (sorted_no p hp6 (by rw [B.out, decide_eq_true hm]))
              rw [decide_eq_true hm] at c1
              clear hm hc
              go_wp2_with fail
              go_ret2
              exact ⟨by rw [R.out, HV.out]; rfl, GB5.out⟩
            · have GN2 := Lib.hid (show ∀ q, q < p + 1 → badT (cols ns q) (tub ns q) = false from fun q hq => by
                by_cases hqp : q = p
                · subst hqp; rw [B.out, decide_eq_false hm]
                · exact GN.out q (by omega))
              rw [decide_eq_false hm] at c1
              have GF6 : Hid (Holds (w4.setCell ⟨w1.heap.size, c, none⟩ (.bool true)) w1.heap.size (flags (cols ns (p + 1)))) := Lib.hid (by
                rw [CN.out, ← flags_set _ _ hc6]; exact GF5.out.set c (.bool true) (by rw [flags_len]; exact hc6))
              have GB6 := Lib.hid (GB5.out.set (b := w1.heap.size) hs1 c (.bool true))
              clear hm hc
              go_wp2_with fail
              go_roundw
              case rel => exact ⟨p + 1, by omega, by go_num, GF6, GN2, GB6⟩
              case measure => simp [intOf]; omega
          · have R := Lib.hid (sorted_no (ns := ns) p hp6 (bad_many (by
              have h1 := mt F.out.zero.1 NZ.out
              have h2 : runsN (tub ns p) (lay (tub ns p)) ≠ 1 := fun e => hpl (F.out.one.1 e).2
              omega)))
            rw [decide_eq_false hpl]
            clear hpl
            go_wp2_with fail
            go_ret2
            exact ⟨by rw [R.out, HV.out]; rfl, GB5.out⟩
      · obtain rfl : p = 6 := by omega
        have R := Lib.hid (sorted_yes HV.out GN.out)
        go_wp2_with fail
        go_ret2
        exact ⟨by rw [R.out, HV.out]; rfl, GB.out⟩
  · have hf : vR ns = false := by simpa using hv
    rw [hf]
    have R := Lib.hid (sorted_not hf)
    have HV := Lib.hid hf
    clear hf hv
    go_wp2_with fail
    go_ret2
    exact ⟨by rw [R.out, HV.out]; rfl, HF0.out⟩
end Go.Proofs.Ytalngdccjoafhab.base
end
