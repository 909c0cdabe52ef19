/-
  The rack of a text, walked on the program's side, and the exact law.
-/
import Derived.Test.YtalngdccjoafhabParseS2
import Derived.Test.YtalngdccjoafhabWalkSplit
namespace Go.Proofs.Ytalngdccjoafhab.base
open Go.ChangeShapes Go.WideShapes Go.ChangeAt Go.RowKit
set_option linter.unusedVariables false
set_option linter.unusedSimpArgs false

theorem rd_at {b : UInt8} : rdB b = if (b.toNat : Int) = 46 then 0 else (b.toNat : Int) - 96 := by
  unfold rdB
  by_cases h : b = 46
  · rw [if_pos h, if_pos (by rw [h]; rfl)]
  · rw [if_neg h, if_neg (fun e => h (UInt8.toNat_inj.1 (by show b.toNat = 46; omega)))]
def upT (p : List UInt8) : Nat → List Int
  | 0 => [0, 0, 0, 0]
  | k + 1 => (upT p k).set k (rdB (p.getD k 0))
theorem upT_len (p : List UInt8) : ∀ k, (upT p k).length = 4
  | 0 => rfl
  | k + 1 => by unfold upT; rw [List.length_set]; exact upT_len p k
theorem upT_all {p : List UInt8} (h : p.length = 4) : upT p 4 = rdT p := by
  match p, h with
  | [a, b, c, d], _ => rfl
theorem upT_zero (p : List UInt8) (k : Nat) (hk : k < 4) : ∀ j, j ≤ k → (upT p j).getD k 0 = 0
  | 0, _ => by
    match k, hk with
    | 0, _ => rfl
    | 1, _ => rfl
    | 2, _ => rfl
    | 3, _ => rfl
  | j + 1, h => by
    unfold upT
    rw [List.getD_eq_getElem?_getD, List.getElem?_set_ne (by omega), ← List.getD_eq_getElem?_getD]
    exact upT_zero p k hk j (by omega)
theorem set_same {l : List Int} {k : Nat} {z : Int} (h : l.getD k 0 = z) (hk : k < l.length) : l.set k z = l := by
  apply List.ext_getElem?
  intro i
  rw [List.getElem?_set]
  by_cases e : k = i
  · subst e
    rw [if_pos rfl, if_pos hk, ← h, List.getD_eq_getElem?_getD, List.getElem?_eq_getElem hk]; rfl
  · rw [if_neg e]

set_option maxHeartbeats 800000 in
theorem readTube_any (x : ByteArray) (w : World) (h : x.size = 4) :
    Calls Try.prog 82 #[.string x] w fun e w' => e = .returned (.agg (ints (rdT x.data.toList)).toArray) ∧ Kept w w' := by
  have HB := Lib.hid (((kept_refl w).alloc (.cells #[.int .i64 0, .int .i64 0, .int .i64 0, .int .i64 0] 112)).alloc (.cells (ints [0, 0, 0, 0]).toArray 112))
  have Z := (Has.zero w 112).alloc (.cells (ints [0, 0, 0, 0]).toArray 112)
  have Y := (Has.box (ns := [0, 0, 0, 0]) (n := 4) (w.alloc (.cells #[.int .i64 0, .int .i64 0, .int .i64 0, .int .i64 0] 112)) 112 rfl (by decide)).at (size1 _ _)
  have hz : ([0, 0, 0, 0] : List Int).length = 4 := rfl
  have LB := Lib.hid (fun k (hk : k < 4) => dat_at x k (h ▸ hk))
  have UA := Lib.hid (upT_all (p := x.data.toList) (by rw [← bytesize]; exact h))
  have UZ := Lib.hid (fun k hk => upT_zero x.data.toList k hk k (Nat.le_refl _))
  have UL := Lib.hid (upT_len x.data.toList)
  go_enter Try.func82, Try.ntmps82
  go_wp2_with (first | (refine store_new rfl 112 _ _ rfl _ _ _ rfl _ (size1 _ _).symm [0, 0, 0, 0] rfl rfl ?_ ?_ ?_; (· (first | assumption | rfl)); (· kernel_rfl)) | (refine build_law rfl 112 rfl _ buildTube ?_))
  go_loopg [6] 4 (fun gk i wr => ∃ k : Nat, gk = 4 - k ∧ k ≤ 4 ∧ i = .int .i64 k ∧ Has wr (w.heap.size + 1) (upT x.data.toList k) 4 ∧ Has wr w.heap.size [0, 0, 0, 0] 4 ∧ Hid (Kept w wr))
  case atStart => exact ⟨0, rfl, by omega, rfl, Y, Z, HB⟩
  case round =>
    obtain ⟨k, rfl, hk, rfl, G1, G2, GB⟩ := hrel
    by_cases hlt : k < 4
    · have ki : (k : Int) < 4 := by omega
      have k0 : (0 : Int) ≤ (k : Int) := by omega
      have ks : (k : Int) < (x.size : Int) := by omega
      have ksn : k < x.size := by omega
      have hb : x[k].toNat < 256 := x[k].toNat_lt
      have US : Hid (upT x.data.toList (k + 1) = (upT x.data.toList k).set k (rdB x[k])) := Lib.hid (by show (upT x.data.toList k).set k (rdB (x.data.toList.getD k 0)) = _; rw [LB.out k hlt])
      have R := Lib.hid (rd_at (b := x[k]))
      have UZ1 := Lib.hid (UZ.out k hlt)
      have UL1 := UL.out k
      have f1 := G1.free k hlt
      have c1 := G1.cell k hlt
      by_cases e : (x[k].toNat : Int) = 46
      · have q : ((x[k].toNat : Int) != 46) = false := by rw [e]; rfl
        have G3 := Has.eqv G1 (show upT x.data.toList k = upT x.data.toList (k + 1) by rw [US.out, R.out, if_pos e, set_same UZ1.out (by omega)])
        clear e
        go_wp2_with fail
        go_roundg (4 - (k + 1))
        case rel => exact ⟨k + 1, rfl, by omega, by go_num, G3, G2, GB⟩
        case measure => omega
      · have q : ((x[k].toNat : Int) != 46) = true := by rw [bne_iff_ne]; exact e
        have e2 : rdB x[k] = (x[k].toNat : Int) - 97 + 1 := by rw [R.out, if_neg e]; omega
        have G3 := Has.eqv (G1.set k ((x[k].toNat : Int) - 97 + 1) hlt) (show _ = upT x.data.toList (k + 1) by rw [US.out, e2])
        have G4 := G2.setOther (b' := w.heap.size + 1) k (.int .i64 ((x[k].toNat : Int) - 97 + 1)) (by omega)
        have GB4 := Lib.hid (GB.out.set (b := w.heap.size + 1) (by omega) k (.int .i64 ((x[k].toNat : Int) - 97 + 1)))
        clear e e2
        go_wp2_with fail
        go_roundg (4 - (k + 1))
        case rel => exact ⟨k + 1, rfl, by omega, by go_num, G3, G4, GB4⟩
        case measure => omega
    · obtain rfl : k = 4 := by omega
      have G3 := Has.eqv G1 UA.out
      have hl : (rdT x.data.toList).length = 4 := G3.len
      have S1 := Lib.hid (G2.putAll _ hl)
      have S2 := Lib.hid (GB.out.puts (b := w.heap.size) (Nat.le_refl _) 0 (ints (rdT x.data.toList)))
      clear G1
      go_wp2_with (first | (refine load_has rfl 112 _ rfl _ rfl ?_ 4 ?_ _ Try.underlying112 rfl ?_ ?_; rotate_left; (· (repeat (first | (with_reducible assumption) | ((with_reducible refine Has.box _ _ ?_ ?_) <;> (first | assumption | decide)) | (with_reducible refine Has.alloc ?_ _) | ((with_reducible refine Has.putOther ?_ _ _ ?_); rotate_left; omega; skip) | ((with_reducible refine Has.below ?_ ?_); rotate_left; assumption)))); (· kernel_rfl)) | (refine store_at rfl 112 _ _ rfl _ _ rfl rfl ?_ 4 ?_ ?_ ?_ ?_; rotate_left; (· (repeat (first | (with_reducible assumption) | ((with_reducible refine Has.box _ _ ?_ ?_) <;> (first | assumption | decide)) | (with_reducible refine Has.alloc ?_ _) | ((with_reducible refine Has.putOther ?_ _ _ ?_); rotate_left; omega; skip) | ((with_reducible refine Has.below ?_ ?_); rotate_left; assumption)))); (· (first | assumption | rfl)); (· kernel_rfl)))
      exact bodyPost_ret (res_has (P := Try.prog) rfl _ _ w.heap.size (rdT x.data.toList) 4 _ rfl S1.out Try.underlying112 rfl (by kernel_rfl)) rfl ⟨rfl, S2.out⟩

theorem splitP_47 (s : ByteArray) (h : s.size ≤ 4000) : splitP s ⟨#[47]⟩ = splitL 47 s.data.toList := if_pos ⟨h, rfl⟩
theorem splitB_47 (s : ByteArray) (h : s.size ≤ 4000) : splitB s ⟨#[47]⟩ = true := decide_eq_true ⟨h, rfl⟩
theorem splitB_no (s : ByteArray) (h : ¬ s.size ≤ 4000) : splitB s ⟨#[47]⟩ = false := decide_eq_false (fun e => h e.1)
theorem strV_mk (p : List UInt8) : strV p = .string (mk p) := rfl

set_option maxHeartbeats 3200000 in
set_option maxRecDepth 100000 in
theorem implParse (s : ByteArray) (w : World) (hs : s.size ≤ maxLen) :
    Calls Try.prog 52 #[.string s] w fun e w' => e = .returned (.tuple #[.agg (ints (parseA s.data.toList)).toArray, .bool (okR s.data.toList)]) ∧ Kept w w' := by
  have hsz := bytesize s
  have HB := Lib.hid ((kept_refl w).alloc (.cells #[.int .i64 0, .int .i64 0, .int .i64 0, .int .i64 0, .int .i64 0, .int .i64 0, .int .i64 0, .int .i64 0, .int .i64 0, .int .i64 0, .int .i64 0, .int .i64 0, .int .i64 0, .int .i64 0, .int .i64 0, .int .i64 0, .int .i64 0, .int .i64 0, .int .i64 0, .int .i64 0, .int .i64 0, .int .i64 0, .int .i64 0, .int .i64 0] 30))
  have Z := Has.zero24 w 30
  have hz : z24.length = 24 := rfl
  have HS := Lib.hid (fun W => implSplit_any s ⟨#[47]⟩ W hs (by unfold maxLen; decide))
  have MK : Hid (mk s.data.toList = s) := Lib.hid (mk_data s)
  by_cases h4 : s.size ≤ 4000
  · have E1 := splitB_47 s h4
    have E2 := splitP_47 s h4
    rw [E1, E2] at HS
    have PY := Lib.hid (fun h => parse_yes (l := s.data.toList) h)
    have PE := Lib.hid (fun h => parse_end (l := s.data.toList) h)
    have PN := Lib.hid (fun h => parse_no (l := s.data.toList) h)
    have PI := Lib.hid (fun h => parse_is (l := s.data.toList) h)
    have RL := Lib.hid (fun k hk h => rdR_len (splitL 47 s.data.toList) k hk h)
    have NE := Lib.hid (splitL_ne 47 s.data.toList)
    clear E1 E2
    generalize splitL 47 s.data.toList = ps at *
    generalize hl : s.data.toList = l at *
    clear hsz
    go_enter Try.func52, Try.ntmps52
    go_wp2_with fail
    refine (HS.out _).mono ?_
    rintro e w1 ⟨v, rfl, q1, b1⟩
    have Z1 := Z.below b1
    have HB1 := Lib.hid (HB.out.call b1)
    clear Z HB b1 HS
    by_cases h6 : ps.length = 6
    · obtain ⟨g, cap, rfl⟩ : ∃ g cap, v = .slice (some ⟨g, 0, none⟩) 6 cap := by
        rw [h6] at q1; exact row_succ q1
      have hg := (World.ownsRow.lt q1 g rfl)
      have R1 : Hid (w1.rangeAt g 0 (ps.map strV)) := Lib.hid (fun j v hj => by
        have hjl : j < ps.length := by
          rcases Nat.lt_or_ge j ps.length with h | h
          · exact h
          · rw [List.getElem?_eq_none (by rw [List.length_map]; exact h)] at hj; cases hj
        rw [h6] at q1 hjl
        have := World.ownsRow.cellAt q1 j (by omega)
        rw [Nat.zero_add, this]; exact hj)
      clear q1
      obtain ⟨c, hc⟩ : ∃ c, c = w1.heap.size := ⟨_, rfl⟩
      have hgc : g ≠ c := by rw [hc]; exact Nat.ne_of_lt hg.2
      have hgl : g < c := by rw [hc]; exact hg.2
      have hcw : w.heap.size < c := by rw [hc]; exact Z1.lt
      have R2 := Lib.hid (range_below R1.out ((Below.refl c w1).alloc (by omega) (.cells (ints z24).toArray 30)) hgl)
      have Z2 := Z1.alloc (.cells (ints z24).toArray 30)
      have HB2 := Lib.hid (HB1.out.alloc (.cells (ints z24).toArray 30))
      have Y2 := (Has.box (ns := z24) (n := 24) w1 30 rfl (by decide)).at hc.symm
      have H6 := Lib.hid h6
      clear Z1 HB1 R1 h6 hg
      go_wp2_with (first | (refine store_new rfl 30 _ _ rfl _ _ _ rfl _ rfl _ rfl rfl ?_ ?_ ?_; (· (first | assumption | rfl)); (· kernel_rfl)) | (refine build_law rfl 30 rfl _ buildRack ?_))
      rw [← hc]
      clear hc
      go_loopg [27] 6 (fun gk i wr => ∃ k : Nat, gk = 6 - k ∧ k ≤ 6 ∧ i = .int .i64 k ∧ Has wr c (rdR ps k) 24 ∧ Has wr w.heap.size z24 24 ∧ Hid (wr.rangeAt g 0 (ps.map strV)) ∧ Hid (Kept w wr) ∧ Hid (∀ j, j < k → (ps.getD j []).length = 4))
      case atStart => exact ⟨0, rfl, by omega, rfl, Y2, Z2, R2, HB2, Lib.hid (fun j hj => by omega)⟩
      case round =>
        obtain ⟨k, rfl, hk, rfl, G1, G2, GR, GB, GO⟩ := hrel
        by_cases hlt : k < 6
        · have ki : (k : Int) < 6 := by omega
          have k0 : (0 : Int) ≤ (k : Int) := by omega
          have hkl : k < ps.length := by rw [H6.out]; exact hlt
          have c1 : wr.cell? ⟨g, k, none⟩ = some (.string (mk (ps.getD k []))) := by
            have := GR.out k (strV (ps.getD k [])) (by rw [List.getElem?_map, List.getD_eq_getElem?_getD, List.getElem?_eq_getElem hkl]; rfl)
            rw [Nat.zero_add] at this; exact this
          have RS := Lib.hid (show rdR ps (k + 1) = setTub (rdR ps k) k (rdT (ps.getD k [])) from rfl)
          have ML := Lib.hid (mk_size (ps.getD k []))
          have MD := Lib.hid (mk_list (ps.getD k []))
          by_cases hp4 : (ps.getD k []).length = 4
          · have GO2 : Hid (∀ j, j < k + 1 → (ps.getD j []).length = 4) := Lib.hid (fun j hj => by
              by_cases hjk : j = k
              · subst hjk; exact hp4
              · exact GO.out j (by omega))
            have hx4 : (mk (ps.getD k [])).size = 4 := ML.out.trans hp4
            have hx4i : ((mk (ps.getD k [])).size : Int) = 4 := by omega
            have RT := Lib.hid (fun W => readTube_any (mk (ps.getD k [])) W hx4)
            rw [MD.out] at RT
            have hlt4 : (rdT (ps.getD k [])).length = 4 := (rdT_len _).trans hp4
            clear hp4 ML MD
            generalize mk (ps.getD k []) = x at *
            generalize rdT (ps.getD k []) = t at *
            go_wp2_with fail
            refine (RT.out _).mono ?_
            rintro e w2 ⟨rfl, b2⟩
            have hcl := G1.lt
            have R3 := Lib.hid (range_other (range_below GR.out b2 (by omega)) c (k * 4) (ints t) hgc)
            have F1 := G1.below b2
            have A3 := Has.eqv (F1.putTub k hlt t hlt4) RS.out.symm
            have t1 := Lib.hid (F1.holds.thereSub (k * 4) 4 (by rw [ints_len, F1.len]; omega))
            have Z3 := (G2.below b2).putOther (b' := c) (k * 4) (ints t) (by omega)
            have S2 := Lib.hid ((GB.out.call b2).puts (b := c) (by omega) (k * 4) (ints t))
            clear G1 G2 GR GB F1 b2 c1
            go_wp2_with (first | (refine store_has rfl 22 _ _ rfl c (k * 4) t rfl rfl 4 hlt4 t1.out ?_ ?_; (· kernel_rfl)))
            go_roundg (6 - (k + 1))
            case rel => exact ⟨k + 1, rfl, by omega, by go_num, A3, Z3, R3, S2, GO2⟩
            case measure => omega
          · have hx4 : ((mk (ps.getD k [])).size : Int) ≠ 4 := by have := ML.out; omega
            have q : (((mk (ps.getD k [])).size : Int) != 4) = true := by rw [bne_iff_ne]; exact hx4
            have N : Hid (okR l = false) := Lib.hid (by
              cases ho : okR l with
              | false => rfl
              | true => exact absurd ((PY.out ho).2.1 k hlt) hp4)
            have PNN := Lib.hid (PN.out N.out)
            have S1 := Lib.hid (G2.putAll z24 rfl)
            have S2 := Lib.hid (GB.out.puts (b := w.heap.size) (Nat.le_refl _) 0 (ints z24))
            clear hp4 ML MD
            generalize mk (ps.getD k []) = x at *
            go_wp2_with (first | (refine build_law rfl 30 rfl _ buildRack ?_) | (refine store_at rfl 30 _ _ rfl _ _ rfl rfl ?_ 24 ?_ ?_ ?_ ?_; rotate_left; (· (repeat (first | (with_reducible assumption) | ((with_reducible refine Has.box _ _ ?_ ?_) <;> (first | assumption | decide)) | (with_reducible refine Has.alloc ?_ _) | ((with_reducible refine Has.putOther ?_ _ _ ?_); rotate_left; omega; skip) | ((with_reducible refine Has.below ?_ ?_); rotate_left; assumption)))); (· (first | assumption | rfl)); (· kernel_rfl)))
            exact bodyPost_ret (res_has1 rfl _ _ w.heap.size z24 24 _ (.bool false) rfl rfl S1.out Try.underlying30 rfl (by kernel_rfl)) rfl ⟨by rw [PNN.out, N.out], S2.out⟩
        · obtain rfl : k = 6 := by omega
          have hgl := RL.out 6 (by omega) (fun j hj => GO.out j hj)
          obtain ⟨u1, u2⟩ := PE.out (fun j hj => GO.out j hj)
          have U1 := Lib.hid u1
          have U2 := Lib.hid u2
          clear u1 u2
          generalize rdR ps 6 = R at *
          go_wp2_with (refine load_has rfl 30 _ rfl _ rfl ?_ 24 ?_ _ Try.underlying30 rfl ?_ ?_; rotate_left; (· (repeat (first | (with_reducible assumption) | ((with_reducible refine Has.box _ _ ?_ ?_) <;> (first | assumption | decide)) | (with_reducible refine Has.alloc ?_ _) | ((with_reducible refine Has.putOther ?_ _ _ ?_); rotate_left; omega; skip) | ((with_reducible refine Has.below ?_ ?_); rotate_left; assumption)))); (· kernel_rfl))
          refine (implText R _ hgl).mono ?_
          rintro e w2 ⟨rfl, b2⟩
          have G4 := G1.below b2
          have Z4 := G2.below b2
          have GB4 := Lib.hid (GB.out.call b2)
          clear G1 G2 GB GR b2
          by_cases hv : vR R = true
          · have TA : Hid (textA R = textL R) := Lib.hid (by unfold textA; rw [if_pos hv])
            rw [hv, TA.out]
            rw [hv, Bool.true_and] at U1
            clear hv
            by_cases he : textL R = l
            · have P := Lib.hid (PI.out (by rw [U1.out]; exact decide_eq_true he))
              have OK : Hid (okR l = true) := Lib.hid (by rw [U1.out]; exact decide_eq_true he)
              have PR := Lib.hid (P.out.trans (U2.out OK.out).symm)
              have S1 := Lib.hid (Z4.putAll R hgl)
              have S2 := Lib.hid (GB4.out.puts (b := w.heap.size) (Nat.le_refl _) 0 (ints R))
              rw [he, MK.out]
              clear he
              go_wp2_with (first | (refine load_has rfl 30 _ rfl _ rfl ?_ 24 ?_ _ Try.underlying30 rfl ?_ ?_; rotate_left; (· (repeat (first | (with_reducible assumption) | ((with_reducible refine Has.box _ _ ?_ ?_) <;> (first | assumption | decide)) | (with_reducible refine Has.alloc ?_ _) | ((with_reducible refine Has.putOther ?_ _ _ ?_); rotate_left; omega; skip) | ((with_reducible refine Has.below ?_ ?_); rotate_left; assumption)))); (· kernel_rfl)) | (refine store_at rfl 30 _ _ rfl _ _ rfl rfl ?_ 24 ?_ ?_ ?_ ?_; rotate_left; (· (repeat (first | (with_reducible assumption) | ((with_reducible refine Has.box _ _ ?_ ?_) <;> (first | assumption | decide)) | (with_reducible refine Has.alloc ?_ _) | ((with_reducible refine Has.putOther ?_ _ _ ?_); rotate_left; omega; skip) | ((with_reducible refine Has.below ?_ ?_); rotate_left; assumption)))); (· (first | assumption | rfl)); (· kernel_rfl)))
              exact bodyPost_ret (res_has1 rfl _ _ w.heap.size R 24 _ (.bool true) rfl rfl S1.out Try.underlying30 rfl (by kernel_rfl)) rfl ⟨by rw [PR.out, OK.out], S2.out⟩
            · have N : Hid (okR l = false) := Lib.hid (by rw [U1.out]; exact decide_eq_false he)
              have PNN := Lib.hid (PN.out N.out)
              have q : ((mk (textL R)).toList == s.toList) = false := by rw [beq_eq_false_iff_ne, _root_.Go.ByteArray.toList_eq, _root_.Go.ByteArray.toList_eq, mk_list, hl]; exact he
              have S1 := Lib.hid (Z4.putAll z24 rfl)
              have S2 := Lib.hid (GB4.out.puts (b := w.heap.size) (Nat.le_refl _) 0 (ints z24))
              clear he
              generalize mk (textL R) = y at *
              go_wp2_with (first | (refine build_law rfl 30 rfl _ buildRack ?_) | (refine store_at rfl 30 _ _ rfl _ _ rfl rfl ?_ 24 ?_ ?_ ?_ ?_; rotate_left; (· (repeat (first | (with_reducible assumption) | ((with_reducible refine Has.box _ _ ?_ ?_) <;> (first | assumption | decide)) | (with_reducible refine Has.alloc ?_ _) | ((with_reducible refine Has.putOther ?_ _ _ ?_); rotate_left; omega; skip) | ((with_reducible refine Has.below ?_ ?_); rotate_left; assumption)))); (· (first | assumption | rfl)); (· kernel_rfl)))
              exact bodyPost_ret (res_has1 rfl _ _ w.heap.size z24 24 _ (.bool false) rfl rfl S1.out Try.underlying30 rfl (by kernel_rfl)) rfl ⟨by rw [PNN.out, N.out], S2.out⟩
          · have hf : vR R = false := by simpa using hv
            rw [hf] at U1
            have N : Hid (okR l = false) := Lib.hid (by rw [U1.out]; rfl)
            have PNN := Lib.hid (PN.out N.out)
            have S1 := Lib.hid (Z4.putAll z24 rfl)
            have S2 := Lib.hid (GB4.out.puts (b := w.heap.size) (Nat.le_refl _) 0 (ints z24))
            rw [hf]
            clear hv hf
            go_wp2_with (first | (refine build_law rfl 30 rfl _ buildRack ?_) | (refine store_at rfl 30 _ _ rfl _ _ rfl rfl ?_ 24 ?_ ?_ ?_ ?_; rotate_left; (· (repeat (first | (with_reducible assumption) | ((with_reducible refine Has.box _ _ ?_ ?_) <;> (first | assumption | decide)) | (with_reducible refine Has.alloc ?_ _) | ((with_reducible refine Has.putOther ?_ _ _ ?_); rotate_left; omega; skip) | ((with_reducible refine Has.below ?_ ?_); rotate_left; assumption)))); (· (first | assumption | rfl)); (· kernel_rfl)))
            exact bodyPost_ret (res_has1 rfl _ _ w.heap.size z24 24 _ (.bool false) rfl rfl S1.out Try.underlying30 rfl (by kernel_rfl)) rfl ⟨by rw [PNN.out, N.out], S2.out⟩
    · obtain ⟨a, n, cap, rfl, hn⟩ : ∃ a n cap, v = .slice a n cap ∧ n = ps.length := by
        rcases q1.2 with ⟨h0, h1⟩ | ⟨g, cap, cur, h0, _⟩
        · exact ⟨none, 0, 0, h0, h1.symm⟩
        · exact ⟨_, _, _, h0, rfl⟩
      have N : Hid (okR l = false) := Lib.hid (by
        cases ho : okR l with
        | false => rfl
        | true => exact absurd (PY.out ho).1 h6)
      have PNN := Lib.hid (PN.out N.out)
      have S1 := Lib.hid (Z1.putAll z24 rfl)
      have S2 := Lib.hid (HB1.out.puts (b := w.heap.size) (Nat.le_refl _) 0 (ints z24))
      have n6 : ((n : Int) != 6) = true := by rw [bne_iff_ne, hn]; omega
      have n6' : ((n : Int) == 6) = false := by rw [beq_eq_false_iff_ne, hn]; omega
      clear h6 hn q1
      go_wp2_with (first | (refine build_law rfl 30 rfl _ buildRack ?_) | (refine store_at rfl 30 _ _ rfl _ _ rfl rfl ?_ 24 ?_ ?_ ?_ ?_; rotate_left; (· (repeat (first | (with_reducible assumption) | ((with_reducible refine Has.box _ _ ?_ ?_) <;> (first | assumption | decide)) | (with_reducible refine Has.alloc ?_ _) | ((with_reducible refine Has.putOther ?_ _ _ ?_); rotate_left; omega; skip) | ((with_reducible refine Has.below ?_ ?_); rotate_left; assumption)))); (· (first | assumption | rfl)); (· kernel_rfl)))
      exact bodyPost_ret (res_has1 rfl _ _ w.heap.size z24 24 _ (.bool false) rfl rfl S1.out Try.underlying30 rfl (by kernel_rfl)) rfl ⟨by rw [PNN.out, N.out], S2.out⟩
  · have E1 := splitB_no s h4
    rw [E1] at HS
    have N : Hid (okR s.data.toList = false) := Lib.hid (by unfold okR; rw [show decide (s.data.toList.length = 29) = false from decide_eq_false (by omega)]; rfl)
    have PNN := Lib.hid (parse_no N.out)
    clear E1 h4 hsz
    go_enter Try.func52, Try.ntmps52
    go_wp2_with fail
    refine (HS.out _).mono ?_
    rintro e w1 ⟨v, rfl, q1, b1⟩
    have Z1 := Z.below b1
    have HB1 := Lib.hid (HB.out.call b1)
    have S1 := Lib.hid (Z1.putAll z24 rfl)
    have S2 := Lib.hid (HB1.out.puts (b := w.heap.size) (Nat.le_refl _) 0 (ints z24))
    clear Z HB b1 HS q1
    go_wp2_with (first | (refine build_law rfl 30 rfl _ buildRack ?_) | (refine store_at rfl 30 _ _ rfl _ _ rfl rfl ?_ 24 ?_ ?_ ?_ ?_; rotate_left; (· (repeat (first | (with_reducible assumption) | ((with_reducible refine Has.box _ _ ?_ ?_) <;> (first | assumption | decide)) | (with_reducible refine Has.alloc ?_ _) | ((with_reducible refine Has.putOther ?_ _ _ ?_); rotate_left; omega; skip) | ((with_reducible refine Has.below ?_ ?_); rotate_left; assumption)))); (· (first | assumption | rfl)); (· kernel_rfl)))
    exact bodyPost_ret (res_has1 rfl _ _ w.heap.size z24 24 _ (.bool false) rfl rfl S1.out Try.underlying30 rfl (by kernel_rfl)) rfl ⟨by rw [PNN.out, N.out], S2.out⟩
end Go.Proofs.Ytalngdccjoafhab.base
