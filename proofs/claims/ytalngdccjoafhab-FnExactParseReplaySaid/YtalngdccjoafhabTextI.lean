/-
  The text of a rack, walked on the program's side.
-/
import Derived.Test.YtalngdccjoafhabText
namespace Go.Proofs.Ytalngdccjoafhab.base
open Go.ChangeShapes Go.WideShapes Go.ChangeAt Go.RowKit
set_option linter.unusedVariables false
set_option linter.unusedSimpArgs false

theorem infoByte : (Try.prog.info? 5).map (fun i => (i.zero, i.size, i.bytes)) = some (some (.int .u8 0), 1, 1) := by kernel_rfl
def byts (l : List UInt8) : List Value := l.map fun b => .int .u8 (b.toNat : Int)
theorem byts_app (a b : List UInt8) : byts (a ++ b) = byts a ++ byts b := List.map_append
theorem byts_len (a : List UInt8) : (byts a).length = a.length := List.length_map _
/-- A row of bytes of the call's own. -/
def Byt (w : World) (b : Nat) (v : Value) (n : Nat) (l : List UInt8) : Prop := w.ownsRow b 5 1 v n (byts l)
theorem Byt.form {w : World} {b : Nat} {v : Value} {n : Nat} {l : List UInt8} (h : Byt w b v n l) (hn : 0 < n) : ∃ g cap, v = .slice (some ⟨g, 0, Option.none⟩) n cap := by
  rcases h.2 with ⟨_, h1⟩ | ⟨g, cap, cur, h0, _⟩
  · omega
  · exact ⟨g, cap, h0⟩
theorem Byt.text {w : World} {b g cap n : Nat} {l : List UInt8} (h : Byt w b (.slice (some ⟨g, 0, none⟩) n cap) n l) (hl : l.length = n) :
    (convert 105 9 (.slice (some ⟨g, 0, none⟩) n cap)).run Try.prog w = .ok (.string (mk l)) w := by
  subst hl
  exact run_convert_bytes_back (P := Try.prog) w 105 9 5 ⟨g, 0, none⟩ cap l Try.underlying105 Try.underlying5 Try.underlying9 (fun j hj => by
    have hc := World.ownsRow.cellAt h j (by omega)
    have hadd : (⟨g, 0, none⟩ : Addr).add j = ⟨g, j, none⟩ := by unfold Addr.add; split <;> simp_all
    rw [hadd, hc]
    unfold byts
    rw [List.getElem?_map, List.getElem?_eq_getElem hj]; rfl)
theorem Byt.none (w : World) (b : Nat) (hb : b ≤ w.heap.size) : Byt (w.alloc (.cells #[] 5)) b (.slice (some ⟨w.heap.size, 0, Option.none⟩) 0 0) 0 [] := by
  have := World.ownsRow_made (base := b) (e := 5) (size := 1) w #[] 0 hb (by unfold maxLen; omega) (by simp)
  simpa [Byt, byts] using this
theorem chr_cases {z : Int} (h0 : 0 ≤ z) (h5 : z ≤ 5) (hz : z ≠ 0) : ((chr z).toNat : Int) = 96 + z := by
  rcases six_cases h0 h5 with rfl | rfl | rfl | rfl | rfl | rfl <;> first | rfl | exact absurd rfl hz
theorem chr_wrap {z : Int} (h0 : 0 ≤ z) (h5 : z ≤ 5) (hz : z ≠ 0) : IntKind.u8.wrap (97 + z - 1) = 96 + z := by
  rcases six_cases h0 h5 with rfl | rfl | rfl | rfl | rfl | rfl <;> first | rfl | exact absurd rfl hz

set_option maxHeartbeats 1600000 in
theorem tubeText_any (t : List Int) (w : World) (h4 : t.length = 4) (hv : vT t = true) :
    Calls Try.prog 77 #[row t] w fun e w' => e = .returned (.string (mk (tubB t))) ∧ Kept w w' := by
  obtain ⟨i0, hi, hz0, hz1, hz2⟩ := info_parts infoByte
  have HB := Lib.hid (((kept_refl w).alloc (.cells (ints t).toArray 112)).alloc (.cells #[] 5))
  have H := (Has.box w 112 h4 (by omega)).alloc (.cells #[] 5)
  have P0 := Lib.hid (Byt.none (w.alloc (.cells (ints t).toArray 112)) (w.heap.size + 1) (by simp))
  rw [size1] at P0
  have KN := Lib.hid (fun q (hq : q < 4) => known_at hv q (by omega))
  have ST := Lib.hid (fun q (hq : q < 4) => tubB_step t q (by omega))
  have TL : Hid ((tubB t).take 4 = tubB t) := Lib.hid (List.take_of_length_le (by rw [tubB_len]; omega))
  have TN := Lib.hid (fun q (hq : q ≤ 4) => show ((tubB t).take q).length = q by rw [List.length_take, tubB_len]; omega)
  have HI := Lib.hid (index4 112 Try.underlying112 t h4)
  rw [row_ints]
  go_enter Try.func77, Try.ntmps77
  go_wp2_with (refine load_has rfl 112 _ rfl _ rfl ?_ 4 ?_ _ Try.underlying112 rfl ?_ ?_; rotate_left; (· (repeat (first | (with_reducible assumption) | ((with_reducible refine Has.box _ _ ?_ ?_) <;> (first | assumption | decide)) | (with_reducible refine Has.alloc ?_ _) | ((with_reducible refine Has.putOther ?_ _ _ ?_); rotate_left; omega; skip) | ((with_reducible refine Has.below ?_ ?_); rotate_left; assumption)))); (· kernel_rfl))
  clear h4 hv H
  generalize ((w.alloc (.cells (ints t).toArray 112)).alloc (.cells #[] 5)) = W at *
  go_loopg [3, 8] 4 (fun gk v i wr => ∃ q : Nat, gk = 4 - q ∧ q ≤ 4 ∧ i = .int .i64 q ∧ Hid (Byt wr (w.heap.size + 1) v q ((tubB t).take q)) ∧ Hid (Kept w wr))
  case atStart => exact ⟨0, rfl, by omega, rfl, P0, HB⟩
  case round =>
    obtain ⟨q, rfl, hq, rfl, GP, GB⟩ := hrel
    by_cases hq4 : q < 4
    · have hqi : (q : Int) < 4 := by omega
      have e1 := HI.out q hq4
      obtain ⟨k0, k5⟩ := KN.out q hq4
      have S := Lib.hid (ST.out q hq4)
      have hbs := GB.out.size
      generalize t.getD q 0 = z at *
      by_cases hz : z = 0
      · subst hz
        have S2 : Hid (byts ((tubB t).take (q + 1)) = byts ((tubB t).take q) ++ [.int .u8 46]) := Lib.hid (by rw [S.out, byts_app]; rfl)
        go_wp2_with (first | (at_builtin; refine wpList_append_own _ rfl _ _ 105 rfl (w.heap.size + 1) 5 i0 (.int .u8 0) 1 1 Try.underlying105 hi hz0 hz1 hz2 rfl (by decide) _ q (byts ((tubB t).take q)) rfl (World.ownsRow.alloc GP.out _) ⟨wr.heap.size, 0, none⟩ 1 1 [.int .u8 46] rfl rfl (cell_one_new _ _ _) (fun x hx => by simp at hx; subst hx; rfl) (by unfold maxLen; omega) (by omega) (by simp; omega) ?_; intro v' w3 hown' hgrow3 hnil3))
        have B2 : Hid (Byt w3 (w.heap.size + 1) v' (q + 1) ((tubB t).take (q + 1))) := Lib.hid (by unfold Byt; rw [S2.out]; exact hown')
        have B3 := Lib.hid ((GB.out.alloc (.cells #[.int .u8 46] 5)).grown hgrow3 (GB.out.alloc (.cells #[.int .u8 46] 5)).size (fun j hj => by have := (World.ownsRow.lt GP.out j hj).1; omega))
        clear hown' hgrow3 hnil3
        go_wp2_with fail
        go_roundg (4 - (q + 1))
        case rel => exact ⟨q + 1, rfl, by omega, by go_num, B2, B3⟩
        case measure => omega
      · have S2 : Hid (byts ((tubB t).take (q + 1)) = byts ((tubB t).take q) ++ [.int .u8 (96 + z)]) := Lib.hid (by rw [S.out, byts_app, ← chr_cases k0 k5 hz]; rfl)
        have hw8 := chr_wrap k0 k5 hz
        have n0 : (z == 0) = false := by simpa using hz
        go_wp2_with (first | (at_builtin; refine wpList_append_own _ rfl _ _ 105 rfl (w.heap.size + 1) 5 i0 (.int .u8 0) 1 1 Try.underlying105 hi hz0 hz1 hz2 rfl (by decide) _ q (byts ((tubB t).take q)) rfl (World.ownsRow.alloc GP.out _) ⟨wr.heap.size, 0, none⟩ 1 1 [.int .u8 (96 + z)] rfl rfl (cell_one_new _ _ _) (fun x hx => by simp at hx; subst hx; rfl) (by unfold maxLen; omega) (by omega) (by simp; omega) ?_; intro v' w3 hown' hgrow3 hnil3))
        have B2 : Hid (Byt w3 (w.heap.size + 1) v' (q + 1) ((tubB t).take (q + 1))) := Lib.hid (by unfold Byt; rw [S2.out]; exact hown')
        have B3 := Lib.hid ((GB.out.alloc (.cells #[.int .u8 (96 + z)] 5)).grown hgrow3 (GB.out.alloc (.cells #[.int .u8 (96 + z)] 5)).size (fun j hj => by have := (World.ownsRow.lt GP.out j hj).1; omega))
        clear hown' hgrow3 hnil3
        go_wp2_with fail
        go_roundg (4 - (q + 1))
        case rel => exact ⟨q + 1, rfl, by omega, by go_num, B2, B3⟩
        case measure => omega
    · obtain rfl : q = 4 := by omega
      obtain ⟨g, cap, rfl⟩ := GP.out.form (by omega)
      have hcv := Byt.text GP.out (TN.out 4 (by omega))
      rw [TL.out] at hcv
      go_wp2_with fail
      go_ret
      exact ⟨rfl, GB.out⟩

/-- The texts of the first tubes. -/
def ptT (ns : List Int) : Nat → List ByteArray
  | 0 => []
  | k + 1 => ptT ns k ++ [mk (tubB (tub ns k))]
theorem ptT_len (ns : List Int) : ∀ k, (ptT ns k).length = k
  | 0 => rfl
  | k + 1 => by unfold ptT; rw [List.length_append, ptT_len ns k]; rfl
theorem ptT_take (ns : List Int) : ∀ k n, k ≤ n → (ptT ns n).take k = ptT ns k
  | k, 0, h => by obtain rfl : k = 0 := by omega
                  rfl
  | k, n + 1, h => by
    by_cases e : k = n + 1
    · subst e; exact List.take_of_length_le (by rw [ptT_len]; omega)
    · show (ptT ns n ++ [_]).take k = _
      rw [List.take_append_of_le_length (by rw [ptT_len]; omega)]; exact ptT_take ns k n (by omega)
theorem ptT_at (ns : List Int) (k n : Nat) (h : k < n) : (ptT ns n)[k]? = some (mk (tubB (tub ns k))) := by
  have e := ptT_take ns (k + 1) n h
  have : (ptT ns n)[k]? = ((ptT ns n).take (k + 1))[k]? := by rw [List.getElem?_take, if_pos (by omega)]
  rw [this, e]
  show (ptT ns k ++ [_])[k]? = _
  rw [List.getElem?_append_right (by rw [ptT_len]; omega), ptT_len, Nat.sub_self]; rfl
theorem ptT_mem {ns : List Int} {n : Nat} {x : ByteArray} (h : x ∈ ptT ns n) : ∃ k, k < n ∧ x = mk (tubB (tub ns k)) := by
  obtain ⟨k, hk, e⟩ := List.mem_iff_getElem.1 h
  rw [ptT_len] at hk
  have := ptT_at ns k n hk
  rw [List.getElem?_eq_getElem (by rw [ptT_len]; exact hk), e] at this
  injection this with this
  exact ⟨k, hk, this⟩
theorem mk_list (l : List UInt8) : (mk l).data.toList = l := by unfold mk; simp
theorem ptT_out (ns : List Int) : ∀ k, k ≤ 6 → outOf (ptT ns 6) [47] k = preT ns k
  | 0, _ => by simp [outOf, bytesOf, Lib.join_nil, preT]
  | k + 1, h => by
    rw [outOf_succ _ _ k _ (ptT_at ns k 6 (by omega)), ptT_out ns k (by omega)]
    rw [show preT ns (k + 1) = preT ns k ++ sepB k ++ tubB (tub ns k) from rfl]
    unfold sepB
    by_cases h0 : k = 0
    · subst h0
      have e : preT ns 0 = [] := rfl
      rw [if_pos rfl, if_neg (by omega), e, mk_list]; rfl
    · rw [if_neg h0, if_pos (by omega), mk_list]
theorem chr_ne (z : Int) (h0 : 0 ≤ z) (h5 : z ≤ 5) : chr z ≠ 47 := by
  rcases six_cases h0 h5 with rfl | rfl | rfl | rfl | rfl | rfl <;> decide
theorem tubB_ne {t : List Int} (hv : vT t = true) : (47 : UInt8) ∉ tubB t := by
  intro hm
  obtain ⟨z, hz, e⟩ := List.mem_map.1 hm
  have hkn : known t = true := by unfold vT at hv; exact (Bool.and_eq_true_iff.1 hv).1
  have := List.all_eq_true.1 hkn z hz
  simp at this
  exact chr_ne z this.1 this.2 e
theorem text_join {ns : List Int} (h24 : ns.length = 24) (hv : vR ns = true) : joinB (ptT ns 6) ⟨#[47]⟩ = true ∧ joinS (ptT ns 6) ⟨#[47]⟩ = mk (textL ns) := by
  have hs : ∀ k, k ≤ 6 → sizes (ptT ns k) ≤ k * 4 := by
    intro k
    induction k with
    | zero => intro _; simp [ptT, sizes]
    | succ k ih =>
      intro hk
      have := sizes_snoc (ptT ns (k + 1)) k _ (ptT_at ns k (k + 1) (by omega))
      rw [ptT_take ns k (k + 1) (by omega), ptT_take ns (k + 1) (k + 1) (by omega)] at this
      rw [this, mk_size, tubB_len, tub_len ns k h24 (by omega)]
      have := ih (by omega); omega
  have ok : JoinOK (ptT ns 6) ⟨#[47]⟩ := by
    refine ⟨by rw [ptT_len]; omega, rfl, ?_, ?_⟩
    · intro x hx
      obtain ⟨k, hk, rfl⟩ := ptT_mem hx
      rw [mk_list, stands_not]
      exact tubB_ne (vR_tub hv k hk)
    · have := hs 6 (by omega)
      rw [ptT_len]; omega
  obtain ⟨y1, y2⟩ := join_yes ok
  refine ⟨y1, y2.trans ?_⟩
  have := ptT_out ns 6 (by omega)
  unfold outOf at this
  rw [List.take_of_length_le (by rw [ptT_len]; omega)] at this
  unfold textL
  rw [← this]; rfl

set_option maxHeartbeats 1600000 in
set_option maxRecDepth 100000 in
theorem implText (ns : List Int) (w : World) (h24 : ns.length = 24) :
    Calls Try.prog 46 #[row ns] w fun e w' => e = .returned (.tuple #[.string (mk (textA ns)), .bool (vR ns)]) ∧ Kept w w' := by
  obtain ⟨i0, hi, hz0, hz1, hz2⟩ := info_parts infoStr
  have HB := Lib.hid ((kept_refl w).alloc (.cells (ints ns).toArray 30))
  have H := Has.box w 30 h24 (by omega)
  rw [row_ints]
  go_enter Try.func46, Try.ntmps46
  go_wp2_with (refine load_has rfl 30 _ rfl _ rfl ?_ 24 ?_ _ Try.underlying30 rfl ?_ ?_; rotate_left; (· (repeat (first | (with_reducible assumption) | ((with_reducible refine Has.box _ _ ?_ ?_) <;> (first | assumption | decide)) | (with_reducible refine Has.alloc ?_ _) | ((with_reducible refine Has.putOther ?_ _ _ ?_); rotate_left; omega; skip) | ((with_reducible refine Has.below ?_ ?_); rotate_left; assumption)))); (· kernel_rfl))
  refine (isRack_any ns _ h24).mono ?_
  rintro e w1 ⟨rfl, b1⟩
  have H1 := H.below b1
  have HB1 := Lib.hid (HB.out.call b1)
  clear H HB b1
  by_cases hv : vR ns = true
  · rw [hv]
    have TA := Lib.hid (show textA ns = textL ns by unfold textA; rw [if_pos hv])
    have HV := Lib.hid hv
    have H24 := Lib.hid h24
    have TJ := Lib.hid (text_join h24 hv)
    clear hv
    have hws := HB1.out.size
    have P0 : Hid (World.ownsRow (w1.alloc (.cells #[] 9)) w.heap.size 9 1 (.slice (some ⟨w1.heap.size, 0, none⟩) 0 0) 0 ((ptT ns 0).map Value.string)) := Lib.hid (by
      have := World.ownsRow_made (base := w.heap.size) (e := 9) (size := 1) w1 #[] 0 hws (by unfold maxLen; omega) (by simp)
      simpa [ptT] using this)
    have HB2 := Lib.hid (HB1.out.alloc (.cells #[] 9))
    have H2 := H1.alloc (.cells #[] 9)
    go_wp2_with (refine load_has rfl 23 _ rfl _ rfl ?_ 24 ?_ _ Try.underlying23 rfl ?_ ?_; rotate_left; (· (repeat (first | (with_reducible assumption) | ((with_reducible refine Has.box _ _ ?_ ?_) <;> (first | assumption | decide)) | (with_reducible refine Has.alloc ?_ _) | ((with_reducible refine Has.putOther ?_ _ _ ?_); rotate_left; omega; skip) | ((with_reducible refine Has.below ?_ ?_); rotate_left; assumption)))); (· kernel_rfl))
    clear h24 H1 H2 HB1
    go_loopg [4, 13] 6 (fun gk v i wr => ∃ p : Nat, gk = 6 - p ∧ p ≤ 6 ∧ i = .int .i64 p ∧ Hid (World.ownsRow wr w.heap.size 9 1 v p ((ptT ns p).map Value.string)) ∧ Hid (Kept w wr))
    case atStart => exact ⟨0, rfl, by omega, rfl, P0, HB2⟩
    case round =>
      obtain ⟨p, rfl, hp, rfl, GP, GB⟩ := hrel
      by_cases hp6 : p < 6
      · have hpi : (p : Int) < 6 := by omega
        have g0 := indexTub ns p hp6
        have h4 := tub_len ns p H24.out hp6
        have hvt := vR_tub HV.out p hp6
        have GP2 := Lib.hid (World.ownsRow.alloc GP.out (.cells (ints (tub ns p)).toArray 22))
        have GB2 := Lib.hid (GB.out.alloc (.cells (ints (tub ns p)).toArray 22))
        go_wp2_with (first | (refine store_new rfl 22 _ _ rfl _ _ _ rfl _ rfl _ rfl rfl ?_ ?_ ?_; (· (first | assumption | rfl)); (· kernel_rfl)) | (refine load_has rfl 22 _ rfl _ rfl ?_ 4 ?_ _ Try.underlying22 rfl ?_ ?_; rotate_left; (· (repeat (first | (with_reducible assumption) | ((with_reducible refine Has.box _ _ ?_ ?_) <;> (first | assumption | decide)) | (with_reducible refine Has.alloc ?_ _) | ((with_reducible refine Has.putOther ?_ _ _ ?_); rotate_left; omega; skip) | ((with_reducible refine Has.below ?_ ?_); rotate_left; assumption)))); (· kernel_rfl)))
        refine (tubeText_any (tub ns p) _ h4 hvt).mono ?_
        rintro e w2 ⟨rfl, b2⟩
        have GP3 := Lib.hid (World.ownsRow.kept (row := none) GP2.out ⟨b2.os, b2.tape, b2.output, b2.size, fun k hk _ => b2.block k hk⟩ (by cases u4.ownBlock <;> simp))
        have GB3 := Lib.hid (GB2.out.call b2)
        clear GP2 GB2 b2 GP GB
        have hbs := GB3.out.size
        have S : Hid ((ptT ns (p + 1)).map Value.string = (ptT ns p).map Value.string ++ [.string (mk (tubB (tub ns p)))]) := Lib.hid (by show (ptT ns p ++ [mk (tubB (tub ns p))]).map Value.string = _; rw [List.map_append]; rfl)
        generalize mk (tubB (tub ns p)) = x at *
        go_wp2_with (first | (at_builtin; refine wpList_append_own _ rfl _ _ 76 rfl w.heap.size 9 i0 (.string ByteArray.empty) 1 16 Try.underlying76 hi hz0 hz1 hz2 rfl (by decide) _ p ((ptT ns p).map Value.string) rfl (World.ownsRow.alloc GP3.out _) ⟨w2.heap.size, 0, none⟩ 1 1 [.string x] rfl rfl (cell_one_new _ _ _) (fun x hx => by simp at hx; subst hx; rfl) (by unfold maxLen; omega) (by omega) (by simp; omega) ?_; intro v' w3 hown' hgrow3 hnil3))
        have B2 : Hid (World.ownsRow w3 w.heap.size 9 1 v' (p + 1) ((ptT ns (p + 1)).map Value.string)) := Lib.hid (by rw [S.out]; exact hown')
        have B3 := Lib.hid ((GB3.out.alloc (.cells #[.string x] 9)).grown hgrow3 (GB3.out.alloc (.cells #[.string x] 9)).size (fun j hj => by have := (World.ownsRow.lt GP3.out j hj).1; omega))
        clear hown' hgrow3 hnil3
        go_wp2_with fail
        go_roundg (6 - (p + 1))
        case rel => exact ⟨p + 1, rfl, by omega, by go_num, B2, B3⟩
        case measure => omega
      · obtain rfl : p = 6 := by omega
        have hown := GP.out
        have J := Lib.hid (implJoin_own w.heap.size u4 (ptT ns 6) ⟨#[47]⟩ wr (by rw [ptT_len]; exact hown) (by rw [ptT_len]; omega) (fun x hx => by obtain ⟨k, hk, rfl⟩ := ptT_mem hx; rw [mk_size, tubB_len, tub_len ns k H24.out hk]; omega) (by unfold maxLen; decide))
        clear hown
        go_wp2_with fail
        refine J.out.mono ?_
        rintro e w2 ⟨rfl, b2⟩
        have HB3 := Lib.hid (GB.out.call b2)
        clear b2 GB
        go_wp2_with fail
        go_ret2
        exact ⟨by rw [TA.out, HV.out, TJ.out.1, TJ.out.2]; rfl, HB3.out⟩
  · have hf : vR ns = false := by simpa using hv
    have TA := Lib.hid (show textA ns = [] by unfold textA; rw [if_neg hv])
    have HV := Lib.hid hf
    rw [hf]
    clear hf hv
    go_wp2_with fail
    go_ret2
    exact ⟨by rw [TA.out, HV.out]; rfl, HB1.out⟩

end Go.Proofs.Ytalngdccjoafhab.base
