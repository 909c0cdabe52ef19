/-
  The text of a replay, walked on both sides.
-/
import Derived.Test.YtalngdccjoafhabRyEZ
import Derived.Test.YtalngdccjoafhabTextI
import Derived.Test.YtalngdccjoafhabNum
namespace Go.Proofs.Ytalngdccjoafhab.base
open Go.ChangeShapes Go.WideShapes Go.ChangeAt Go.RowKit
set_option linter.unusedVariables false
set_option linter.unusedSimpArgs false

/-- A digit; the text of a pour; the text so far; its parts. -/
def dgB (z : Int) : List UInt8 := [UInt8.ofNat (48 + z.toNat)]
def ptB (x y : Int) : List UInt8 := dgB x ++ dgB y
def rtL (ns fs : List Int) : Nat → List UInt8
  | 0 => textL ns
  | k + 1 => rtL ns fs k ++ [32] ++ dgB (fs.getD (k * 2) 0) ++ dgB (fs.getD (k * 2 + 1) 0)
def rtP (ns fs : List Int) : Nat → List ByteArray
  | 0 => [mk (textL ns)]
  | k + 1 => rtP ns fs k ++ [mk (ptB (fs.getD (k * 2) 0) (fs.getD (k * 2 + 1) 0))]
def txA (ns fs : List Int) (n : Nat) : ByteArray := if rpOk ns fs n = true then mk (rtL ns fs n) else ⟨#[]⟩
theorem tx_yes {ns fs : List Int} {n : Nat} (h : rpOk ns fs n = true) : txA ns fs n = mk (rtL ns fs n) := by unfold txA; rw [if_pos h]
theorem tx_no {ns fs : List Int} {n : Nat} (h : rpOk ns fs n = false) : txA ns fs n = ⟨#[]⟩ := by unfold txA; rw [if_neg (by rw [h]; simp)]
theorem dgB_nat (p : Nat) : dgB (p : Int) = [UInt8.ofNat (48 + p)] := by unfold dgB; rw [Int.toNat_natCast]
theorem ptB_len (x y : Int) : (ptB x y).length = 2 := rfl
theorem rtP_len (ns fs : List Int) : ∀ k, (rtP ns fs k).length = k + 1
  | 0 => rfl
  | k + 1 => by rw [rtP, List.length_append, rtP_len ns fs k]; rfl
theorem rtL_len {ns : List Int} (h : ns.length = 24) (fs : List Int) : ∀ k, (rtL ns fs k).length ≤ 30 + 3 * k
  | 0 => preT_len ns h 6 (by omega)
  | k + 1 => by
    have := rtL_len h fs k
    rw [rtL, List.length_append, List.length_append, List.length_append]
    show _ + 1 + 1 + 1 ≤ _
    omega
theorem bytesOf_snoc (xs : List ByteArray) (l : List UInt8) : bytesOf (xs ++ [mk l]) = bytesOf xs ++ [l] := by
  unfold bytesOf
  rw [List.map_append, List.map_cons, List.map_nil, mk_list]
theorem rt_join (ns fs : List Int) : ∀ k, Lib.join (bytesOf (rtP ns fs k)) [32] = rtL ns fs k
  | 0 => by
    have e : rtP ns fs 0 = [] ++ [mk (textL ns)] := rfl
    rw [e, bytesOf_snoc, join_snoc]
    exact if_pos rfl
  | k + 1 => by
    rw [rtP, bytesOf_snoc, join_snoc, rt_join ns fs k, if_neg, rtL, ptB, List.append_assoc (rtL ns fs k ++ [32])]
    intro h
    have h2 := congrArg List.length h
    unfold bytesOf at h2
    rw [List.length_map, rtP_len] at h2
    simp at h2
theorem sizes_app (xs : List ByteArray) (x : ByteArray) : sizes (xs ++ [x]) = sizes xs + x.size := by
  unfold sizes; rw [List.map_append, List.sum_append]; simp
theorem rt_sizes {ns : List Int} (h : ns.length = 24) (fs : List Int) : ∀ k, sizes (rtP ns fs k) ≤ 30 + 2 * k
  | 0 => by
    have h2 := preT_len ns h 6 (by omega)
    have e : sizes (rtP ns fs 0) = (mk (textL ns)).size := by unfold sizes rtP; simp
    rw [e, mk_size]; exact h2
  | k + 1 => by
    have := rt_sizes h fs k
    rw [rtP, sizes_app, mk_size, ptB_len]; omega
theorem chr_no32 (z : Int) (h0 : 0 ≤ z) (h5 : z ≤ 5) : chr z ≠ 32 := by
  rcases six_cases h0 h5 with rfl | rfl | rfl | rfl | rfl | rfl <;> decide
theorem tubB_no32 {t : List Int} (hv : vT t = true) : (32 : UInt8) ∉ tubB t := by
  intro hm
  obtain ⟨z, hz, e⟩ := List.mem_map.1 hm
  have hkn : known t = true := by unfold vT at hv; exact (Bool.and_eq_true_iff.1 hv).1
  have := List.all_eq_true.1 hkn z hz
  simp at this
  exact chr_no32 z this.1 this.2 e
theorem preT_no32 {ns : List Int} (hv : vR ns = true) : ∀ i, i ≤ 6 → (32 : UInt8) ∉ preT ns i
  | 0, _ => by simp [preT]
  | i + 1, h => by
    rw [show preT ns (i + 1) = preT ns i ++ sepB i ++ tubB (tub ns i) from rfl]
    intro hm
    rcases List.mem_append.1 hm with h1 | h1
    · rcases List.mem_append.1 h1 with h2 | h2
      · exact preT_no32 hv i (by omega) h2
      · unfold sepB at h2
        split at h2
        · simp at h2
        · cases h2
    · exact tubB_no32 (vR_tub hv i (by omega)) h1
theorem dg_no32 (p : Nat) (h : p < 6) : (32 : UInt8) ∉ dgB (p : Int) := by
  rw [dgB_nat]
  have : p = 0 ∨ p = 1 ∨ p = 2 ∨ p = 3 ∨ p = 4 ∨ p = 5 := by omega
  rcases this with rfl | rfl | rfl | rfl | rfl | rfl <;> decide
theorem rt_nosep {ns fs : List Int} (hv : vR ns = true) : ∀ k, doOk ns fs k = true → NoSep (rtP ns fs k) 32
  | 0, _ => fun x hx => by
    have e := List.mem_singleton.1 hx
    rw [e, mk_list, stands_not]
    exact preT_no32 hv 6 (by omega)
  | k + 1, h => fun x hx => by
    rw [rtP] at hx
    rcases List.mem_append.1 hx with h1 | h1
    · exact rt_nosep hv k (do_back h (by omega)) x h1
    · have e := List.mem_singleton.1 h1
      have OK := do_can h (show k < k + 1 by omega)
      unfold canAt at OK
      obtain ⟨p, q, ep, eq, p6, q6, _, _⟩ := pourOk_parts OK
      rw [e, mk_list, stands_not, ep, eq]
      intro hm
      unfold ptB at hm
      rcases List.mem_append.1 hm with h2 | h2
      · exact dg_no32 p p6 h2
      · exact dg_no32 q q6 h2
theorem rt_ok {ns fs : List Int} {n : Nat} (h24 : ns.length = 24) (h : rpOk ns fs n = true) : joinB (rtP ns fs n) ⟨#[32]⟩ = true ∧ joinS (rtP ns fs n) ⟨#[32]⟩ = mk (rtL ns fs n) := by
  have ok : JoinOK (rtP ns fs n) ⟨#[32]⟩ := by
    refine ⟨by rw [rtP_len]; omega, rfl, rt_nosep (do_first (rp_do h)) n (rp_do h), ?_⟩
    have h1 := rt_sizes h24 fs n
    have h2 := rp_le h
    rw [rtP_len]; omega
  obtain ⟨y1, y2⟩ := join_yes ok
  refine ⟨y1, y2.trans ?_⟩
  have e := rt_join ns fs n
  rw [← e]; rfl
theorem rt_size {ns : List Int} (h24 : ns.length = 24) (fs : List Int) : ∀ k, ∀ x ∈ rtP ns fs k, x.size ≤ 1048576
  | 0, x, hx => by
    have e := List.mem_singleton.1 hx
    have := preT_len ns h24 6 (by omega)
    rw [e, mk_size]
    show (preT ns 6).length ≤ _
    omega
  | k + 1, x, hx => by
    rw [rtP] at hx
    rcases List.mem_append.1 hx with h1 | h1
    · exact rt_size h24 fs k x h1
    · have e := List.mem_singleton.1 h1
      rw [e, mk_size, ptB_len]; omega
theorem dec_one (p : Nat) (h : p < 10) : (⟨(Lib.decDigits p).toArray⟩ : ByteArray) = mk (dgB (p : Int)) := by
  rw [dgB_nat]
  exact (num.digit_dec p h).symm.trans (num.digit_at p h)
theorem dig_to (p : Nat) (h : p < 6) : ((UInt8.ofNat (48 + p)).toNat : Int) = 48 + (p : Int) ∧ IntKind.u8.wrap (48 + (p : Int)) = 48 + (p : Int) ∧ IntKind.i64.wrap (48 + (p : Int)) = 48 + (p : Int) := by
  have : p = 0 ∨ p = 1 ∨ p = 2 ∨ p = 3 ∨ p = 4 ∨ p = 5 := by omega
  rcases this with rfl | rfl | rfl | rfl | rfl | rfl <;> exact ⟨by decide, by decide, by decide⟩

set_option maxHeartbeats 1600000 in
set_option maxRecDepth 100000 in
theorem pourText_any (p q : Nat) (w : World) (hp : p < 6) (hq : q < 6) :
    Calls Try.prog 47 #[.agg (ints [(p : Int), (q : Int)]).toArray] w fun e w' => e = .returned (.string (mk (ptB (p : Int) (q : Int)))) ∧ Kept w w' := by
  have HB := Lib.hid ((kept_refl w).alloc (.cells (ints [(p : Int), (q : Int)]).toArray 51))
  have H := Has.box (ns := [(p : Int), (q : Int)]) (n := 2) w 51 rfl (by omega)
  have cc0 := H.cell 0 (by omega)
  have cc1 := H.cell 1 (by omega)
  rw [List.getD_cons_zero] at cc0
  rw [List.getD_cons_succ, List.getD_cons_zero] at cc1
  obtain ⟨p1, p2, p3⟩ := dig_to p hp
  obtain ⟨q1, q2, q3⟩ := dig_to q hq
  go_enter Try.func47, Try.ntmps47
  have hW := size1 w (.cells (ints [(p : Int), (q : Int)]).toArray 51)
  go_upto_region 1 with fail
  generalize w.alloc (.cells (ints [(p : Int), (q : Int)]).toArray 51) = W at *
  have BY : Byt (W.alloc (.cells #[.int .u8 (48 + (p : Int)), .int .u8 (48 + (q : Int))] 5)) 0 (.slice (some ⟨W.heap.size, 0, none⟩) 2 2) 2 (ptB (p : Int) (q : Int)) := by
    have := World.ownsRow_lit (base := 0) (e := 5) (size := 1) W #[.int .u8 (48 + (p : Int)), .int .u8 (48 + (q : Int))] 2 (Nat.zero_le _) (by unfold maxLen; omega) (by simp)
    have e : byts (ptB (p : Int) (q : Int)) = [.int .u8 (48 + (p : Int)), .int .u8 (48 + (q : Int))] := by
      unfold ptB
      rw [dgB_nat, dgB_nat]
      show [Value.int .u8 ((UInt8.ofNat (48 + p)).toNat : Int), Value.int .u8 ((UInt8.ofNat (48 + q)).toNat : Int)] = _
      rw [p1, q1]
    unfold Byt
    rw [e]
    exact this
  have hcv := Byt.text BY (ptB_len _ _)
  have S := Lib.hid (HB.out.alloc (.cells #[.int .u8 (48 + (p : Int)), .int .u8 (48 + (q : Int))] 5))
  clear BY p1 q1 H HB
  rw [hW] at hcv
  go_wp2_with fail
  go_ret
  exact ⟨rfl, S.out⟩

set_option maxHeartbeats 1600000 in
set_option maxRecDepth 100000 in
theorem implText11 (ns fs : List Int) (v : Value) (n b : Nat) (w : World) (h24 : ns.length = 24) (hn : n ≤ 1048576) (h : Rw w b v n fs) :
    Calls Try.prog 21 #[rpV ns v] w fun e w' => e = .returned (.tuple #[.string (txA ns fs n), .bool (rpOk ns fs n)]) ∧ Kept w w' := by
  obtain ⟨i0, hi, hz0, hz1, hz2⟩ := info_parts infoStr
  obtain ⟨a, cap, rfl⟩ := h.shape
  have AP := Lib.hid (fun hn0 k hk => (h.ownlt hn0 k hk).2)
  have RY := Ry.box (v := .slice a n cap) w 32 h24
  have HB := Lib.hid ((kept_refl w).alloc (.cells (rpC ns (.slice a n cap)).toArray 32))
  have HR := Lib.hid (h.alloc (.cells (rpC ns (.slice a n cap)).toArray 32))
  clear h
  unfold rpV
  go_enter Try.func21, Try.ntmps21
  go_wp2_with (refine guardY (isLdY 32) ?_ ?_; (· rfl); refine load_ry rfl 32 _ rfl w.heap.size rfl _ _ _ RY _ Try.underlying32 rfl ?_ ?_; (· kernel_rfl))
  refine (implIsReplay ns fs (.slice a n cap) n b _ h24 hn HR.out).mono ?_
  rintro e w1 ⟨rfl, b1⟩
  replace RY := RY.below b1
  replace HB := Lib.hid (HB.out.call b1)
  replace HR := Lib.hid (HR.out.below b1)
  clear b1
  cases hok : rpOk ns fs n with
  | false =>
    have E := Lib.hid (tx_no hok)
    have OKH := Lib.hid hok
    clear hok
    go_wp2_with fail
    go_ret2
    exact ⟨by rw [E.out, OKH.out]; rfl, HB.out⟩
  | true =>
    have E := Lib.hid (tx_yes hok)
    have OKH := Lib.hid hok
    have DD := Lib.hid (rp_do hok)
    have n60 := rp_le hok
    have TJ := Lib.hid (rt_ok h24 hok)
    have TA := Lib.hid (show textA ns = textL ns by unfold textA; rw [if_pos (do_first (rp_do hok))])
    have SZ := Lib.hid (rt_size h24 fs)
    have HV := Lib.hid (do_first (rp_do hok))
    clear hok
    go_wp2_with (refine guardY (isLdY 30) ?_ ?_; (· rfl); refine load_start rfl 30 _ rfl w.heap.size rfl _ _ _ RY _ Try.underlying30 rfl ?_ ?_; (· kernel_rfl))
    refine (implText ns _ h24).mono ?_
    rintro e w2 ⟨rfl, b2⟩
    rw [TA.out, HV.out]
    replace RY := RY.below b2
    replace HB := Lib.hid (HB.out.call b2)
    replace HR := Lib.hid (HR.out.below b2)
    clear b2
    have hws : w.heap.size < w2.heap.size := RY.lt
    have P0 : Hid (World.ownsRow (w2.alloc (.cells #[.string (mk (textL ns))] 9)) w2.heap.size 9 1 (.slice (some ⟨w2.heap.size, 0, none⟩) 1 1) 1 ((rtP ns fs 0).map Value.string)) := Lib.hid (World.ownsRow_lit w2 #[.string (mk (textL ns))] 1 (Nat.le_refl _) (by unfold maxLen; omega) rfl)
    replace RY := RY.alloc (.cells #[.string (mk (textL ns))] 9)
    replace HB := Lib.hid (HB.out.alloc (.cells #[.string (mk (textL ns))] 9))
    replace HR := Lib.hid (HR.out.alloc (.cells #[.string (mk (textL ns))] 9))
    have HS0 := Lib.hid (show w2.heap.size ≤ (w2.alloc (.cells #[.string (mk (textL ns))] 9)).heap.size by rw [size1]; omega)
    go_upto_region 5 with fail
    obtain ⟨B, hB⟩ : ∃ s, w2.heap.size = s := ⟨_, rfl⟩
    rw [hB] at P0 hws HS0 ⊢
    generalize w2.alloc (.cells #[.string (mk (textL ns))] 9) = W2 at *
    clear hB
    have c24 := RY.pours
    go_wp2_with fail
    clear c24 RY h24
    go_loopw [6, 23] (fun u i wr => ∃ k : Nat, k ≤ n ∧ i = .int .i64 k ∧ Hid (World.ownsRow wr B 9 1 u (k + 1) ((rtP ns fs k).map Value.string)) ∧ Hid (Rw wr b (.slice a n cap) n fs) ∧ Hid (B ≤ wr.heap.size) ∧ Hid (Kept w wr)) (fun _ i _ => n - (intOf i).toNat)
    case atStart => exact ⟨0, by omega, rfl, P0, HR, HS0, HB⟩
    case round =>
      clear P0 HR HB HS0
      obtain ⟨k, hk, rfl, GP, GR, GS, GB⟩ := hrel
      have gs := GS.out
      by_cases hlt : k < n
      · have ki : (k : Int) < ((n : Nat) : Int) := by omega
        have k0 : (0 : Int) ≤ (k : Int) := by omega
        obtain ⟨g, cap2, hv', _, hgl⟩ := GR.out.form (by omega)
        injection hv' with ha _ hcap
        subst ha
        subst hcap
        have hgs : g < w.heap.size := AP.out (by omega) g rfl
        have r0 := GR.out.cell (k * 2) (by omega)
        have r1 := GR.out.cell (k * 2 + 1) (by omega)
        have S : Hid ((rtP ns fs (k + 1)).map Value.string = (rtP ns fs k).map Value.string ++ [.string (mk (ptB (fs.getD (k * 2) 0) (fs.getD (k * 2 + 1) 0)))]) := Lib.hid (by rw [rtP, List.map_append]; rfl)
        have OK := do_can DD.out hlt
        unfold canAt at OK
        generalize fs.getD (k * 2) 0 = x at *
        generalize fs.getD (k * 2 + 1) 0 = y at *
        obtain ⟨p, q, rfl, rfl, p6, q6, _, _⟩ := pourOk_parts OK
        clear OK
        have RG := Lib.hid (range_two r0 r1)
        have B8 := Has.box (ns := [(p : Int), (q : Int)]) (n := 2) wr 51 rfl (by omega)
        replace GP := Lib.hid (World.ownsRow.alloc GP.out (.cells (ints [(p : Int), (q : Int)]).toArray 51))
        replace GR := Lib.hid (GR.out.alloc (.cells (ints [(p : Int), (q : Int)]).toArray 51))
        replace GB := Lib.hid (GB.out.alloc (.cells (ints [(p : Int), (q : Int)]).toArray 51))
        clear r0 r1
        go_wp2_with (first | (refine wpList_load_mid rfl 51 _ rfl g (k * 2) rfl (ints [(p : Int), (q : Int)]) _ RG.out Try.underlying51 rfl (by kernel_rfl) ?_) | (refine guardY (isStY 51) ?_ ?_; (· rfl); (refine store_new rfl 51 _ _ rfl _ _ _ rfl _ rfl _ rfl rfl ?_ ?_ ?_; (· (first | assumption | rfl)); (· kernel_rfl))) | (refine guardY (isLdY 51) ?_ ?_; (· rfl); (refine load_has rfl 51 _ rfl _ rfl ?_ 2 ?_ _ Try.underlying51 rfl ?_ ?_; rotate_left; (· (repeat (first | (with_reducible assumption) | ((with_reducible refine Has.box _ _ ?_ ?_) <;> (first | assumption | decide)) | (with_reducible refine Has.alloc ?_ _) | ((with_reducible refine Has.putOther ?_ _ _ ?_); rotate_left; omega; skip) | ((with_reducible refine Has.below ?_ ?_); rotate_left; assumption)))); (· kernel_rfl))))
        refine (pourText_any p q _ p6 q6).mono ?_
        rintro e w5 ⟨rfl, b5⟩
        replace GP := Lib.hid (World.ownsRow.kept (row := none) GP.out ⟨b5.os, b5.tape, b5.output, b5.size, fun k hk _ => b5.block k hk⟩ (by cases u6.ownBlock <;> simp))
        replace GR := Lib.hid (GR.out.below b5)
        replace GB := Lib.hid (GB.out.call b5)
        have g5 : B ≤ w5.heap.size := by have := b5.size; rw [size1] at this; omega
        clear b5 B8 RG
        obtain ⟨X, hX⟩ : ∃ X, mk (ptB (p : Int) (q : Int)) = X := ⟨_, rfl⟩
        rw [hX] at S ⊢
        have hxs : X.size ≤ 10 := by rw [← hX, mk_size, ptB_len]; omega
        obtain ⟨PL, hPL⟩ : ∃ PL, (rtP ns fs k).map Value.string = PL := ⟨_, rfl⟩
        rw [hPL] at GP S
        clear hX hPL
        have own := Lib.hid (fun z hz => (World.ownsRow.lt GP.out z hz).1)
        go_wp2_with (at_builtin; refine wpList_append_own _ rfl _ _ 76 rfl B 9 i0 (.string ByteArray.empty) 1 16 Try.underlying76 hi hz0 hz1 hz2 rfl (by decide) _ (k + 1) PL rfl (World.ownsRow.alloc GP.out _) ⟨w5.heap.size, 0, none⟩ 1 1 [.string X] rfl rfl (cell_one_new _ _ _) (fun x hx => by simp at hx; subst hx; rfl) (by unfold maxLen; omega) (by omega) (by simp; omega) ?_; intro v' w6 hown' hgrow6 hnil6)
        have B2 : Hid (World.ownsRow w6 B 9 1 v' (k + 1 + 1) ((rtP ns fs (k + 1)).map Value.string)) := Lib.hid (by rw [S.out]; exact hown')
        have GR6 := Lib.hid ((GR.out.alloc (.cells #[.string X] 9)).grownP hgrow6 (fun _ z hz => .inr (fun e => by have h1 := own.out z hz; have h2 := Option.some.inj (show some g = some z from e); omega)))
        have GB6 : Hid (Kept w w6) := Lib.hid ((GB.out.alloc (.cells #[.string X] 9)).grown hgrow6 (by rw [size1]; have := GB.out.size; omega) (fun z hz => by have := own.out z hz; omega))
        have GS6 : Hid (B ≤ w6.heap.size) := Lib.hid (by have := hgrow6.size; rw [size1] at this; omega)
        clear hown' hgrow6 hnil6 GP GR GB
        go_wp2_with fail
        go_roundw
        case rel => exact ⟨k + 1, by omega, by go_num, B2, GR6, GS6, GB6⟩
        case measure => simp [intOf]; omega
      · obtain rfl : k = n := by omega
        have hown := GP.out
        have J := Lib.hid (implJoin_own B u6 (rtP ns fs k) ⟨#[32]⟩ wr (by rw [rtP_len]; exact hown) (by rw [rtP_len]; omega) (SZ.out k) (by unfold maxLen; decide))
        clear hown
        go_wp2_with fail
        refine J.out.mono ?_
        rintro e w6 ⟨rfl, b6⟩
        have HB3 := Lib.hid (GB.out.call b6)
        rw [TJ.out.1, TJ.out.2]
        clear b6 GB J
        go_wp2_with fail
        go_ret2
        exact ⟨by rw [E.out, OKH.out]; rfl, HB3.out⟩

theorem l1Dig_any (p : Nat) (w : World) (hp : p < 6) :
    Calls Try.prog 75 #[.int .i64 (p : Int)] w fun e w' => e = .returned (.string (mk (dgB (p : Int)))) ∧ w' = w :=
  (num.l1Num_small (p : Int) w (by omega) (by omega)).mono fun e w' ⟨h1, h2⟩ => ⟨by rw [h1, Int.toNat_natCast, dec_one p (by omega)], h2⟩

set_option maxHeartbeats 1600000 in
set_option maxRecDepth 100000 in
theorem l11Write_any (ns fs : List Int) (v : Value) (n b : Nat) (w : World) (h24 : ns.length = 24) (hok : rpOk ns fs n = true) (h : Rw w b v n fs) :
    Calls Try.prog 45 #[rpV ns v] w fun e w' => e = .returned (.string (mk (rtL ns fs n))) ∧ Kept w w' := by
  obtain ⟨a, cap, rfl⟩ := h.shape
  have RY := Ry.box (v := .slice a n cap) w 32 h24
  have HB := Lib.hid ((kept_refl w).alloc (.cells (rpC ns (.slice a n cap)).toArray 32))
  have HR := Lib.hid (h.alloc (.cells (rpC ns (.slice a n cap)).toArray 32))
  have DD := Lib.hid (rp_do hok)
  have n60 := rp_le hok
  have HV := Lib.hid (do_first (rp_do hok))
  have RL := Lib.hid (rtL_len h24 fs)
  clear h hok
  unfold rpV
  go_enter Try.func45, Try.ntmps45
  go_wp2_with (refine guardY (isLdY 30) ?_ ?_; (· rfl); refine load_start rfl 30 _ rfl w.heap.size rfl _ _ _ RY _ Try.underlying30 rfl ?_ ?_; (· kernel_rfl))
  refine (l2Text_any ns _ h24 HV.out).mono ?_
  rintro e w1 ⟨rfl, b1⟩
  replace RY := RY.below b1
  replace HB := Lib.hid (HB.out.call b1)
  replace HR := Lib.hid (HR.out.below b1)
  clear b1 h24
  go_wp2_with fail
  go_loopw [3, 4] (fun s i wr => ∃ k : Nat, k ≤ n ∧ i = .int .i64 k ∧ s = .string (mk (rtL ns fs k)) ∧ Ry wr w.heap.size ns (.slice a n cap) 32 ∧ Hid (Rw wr b (.slice a n cap) n fs) ∧ Hid (Kept w wr)) (fun _ i _ => n - (intOf i).toNat)
  case atStart => exact ⟨0, by omega, rfl, rfl, RY, HR, HB⟩
  case round =>
    clear RY HR HB
    obtain ⟨k, hk, rfl, rfl, RY, GR, GB⟩ := hrel
    have c24 := RY.pours
    by_cases hlt : k < n
    · have ki : (k : Int) < ((n : Nat) : Int) := by omega
      have k0 : (0 : Int) ≤ (k : Int) := by omega
      obtain ⟨g, cap2, hv', _, hgl⟩ := GR.out.form (by omega)
      injection hv' with ha _ hcap
      subst ha
      subst hcap
      have C24 := Lib.hid (fun w' (hw : Kept wr w') => (RY.below hw).pours)
      have C0 : Hid (∀ w', Kept wr w' → w'.cell? ⟨g, k * 2, none⟩ = some (.int .i64 (fs.getD (k * 2) 0))) := Lib.hid (fun w' hw => (GR.out.below hw).cell (k * 2) (by omega))
      have C1 : Hid (∀ w', Kept wr w' → w'.cell? ⟨g, k * 2 + 1, none⟩ = some (.int .i64 (fs.getD (k * 2 + 1) 0))) := Lib.hid (fun w' hw => (GR.out.below hw).cell (k * 2 + 1) (by omega))
      have S : Hid (rtL ns fs (k + 1) = rtL ns fs k ++ [32] ++ dgB (fs.getD (k * 2) 0) ++ dgB (fs.getD (k * 2 + 1) 0)) := Lib.hid rfl
      have OK := do_can DD.out hlt
      unfold canAt at OK
      generalize fs.getD (k * 2) 0 = x at *
      generalize fs.getD (k * 2 + 1) 0 = y at *
      obtain ⟨p, q, rfl, rfl, p6, q6, _, _⟩ := pourOk_parts OK
      clear OK
      have rl := RL.out k
      obtain ⟨l, hl⟩ : ∃ l, rtL ns fs k = l := ⟨_, rfl⟩
      rw [hl] at S rl ⊢
      have KP := Lib.hid (fun W => l1Dig_any p W p6)
      have KQ := Lib.hid (fun W => l1Dig_any q W q6)
      have lp : (dgB (p : Int)).length = 1 := rfl
      have lq : (dgB (q : Int)).length = 1 := rfl
      obtain ⟨P, hP⟩ : ∃ P, dgB (p : Int) = P := ⟨_, rfl⟩
      obtain ⟨Q, hQ⟩ : ∃ Q, dgB (q : Int) = Q := ⟨_, rfl⟩
      rw [hP] at KP S lp
      rw [hQ] at KQ S lq
      clear hP hQ hl
      have A1 : ∀ W, (Op.stringOp .add (mk l) ⟨#[32]⟩).run Try.prog W = .ok (.string (mk (l ++ [32]))) W := fun W => add_mk l [32] (by simp; omega) W
      have A2 := add_mk (l ++ [32]) P (by rw [List.length_append]; simp; omega)
      have A3 := add_mk (l ++ [32] ++ P) Q (by rw [List.length_append, List.length_append]; simp; omega)
      obtain ⟨l1, h1⟩ : ∃ t, l ++ [32] = t := ⟨_, rfl⟩
      rw [h1] at A1 A2 A3 S
      obtain ⟨l2, h2⟩ : ∃ t, l1 ++ P = t := ⟨_, rfl⟩
      rw [h2] at A2 A3 S
      obtain ⟨l3, h3⟩ : ∃ t, l2 ++ Q = t := ⟨_, rfl⟩
      rw [h3] at A3 S
      clear h1 h2 h3
      go_wp2_with fail
      clear c24
      refine wp_region_held_drew (S := fun w' => Kept wr w') (by kernel_rfl) ((kept_refl wr).drewN 1) (fun hHeld => ?_)
      (refine wpAnyH_take (i := 0) (v := ?_) rfl (by kernel_rfl) (by kernel_rfl) (by kernel_rfl) (fun _ _ _ h => h) (Or.inl ⟨by rfl, ?_⟩) hHeld ?_; rotate_left; (· (intro w' hSw; go_simp; try with_reducible rfl)); (try simp only [List.getElem_toArray, List.getElem_cons_zero, List.getElem_cons_succ, Act.put, List.setIfInBounds_toArray, List.set_cons_zero, List.set_cons_succ])); (refine wpAnyH_take (i := 1) (v := ?_) rfl (by kernel_rfl) (by kernel_rfl) (by kernel_rfl) (fun _ _ _ h => h) (Or.inl ⟨by rfl, ?_⟩) hHeld ?_; rotate_left; (· (intro w' hSw; go_simp; try with_reducible rfl)); (try simp only [List.getElem_toArray, List.getElem_cons_zero, List.getElem_cons_succ, Act.put, List.setIfInBounds_toArray, List.set_cons_zero, List.set_cons_succ])); (refine wpAnyH_take (i := 2) (v := ?_) rfl (by kernel_rfl) (by kernel_rfl) (by kernel_rfl) (fun _ _ _ h => h) (Or.inl ⟨by rfl, ?_⟩) hHeld ?_; rotate_left; (· (intro w' hSw; go_simp; try with_reducible rfl)); (try simp only [List.getElem_toArray, List.getElem_cons_zero, List.getElem_cons_succ, Act.put, List.setIfInBounds_toArray, List.set_cons_zero, List.set_cons_succ])); (refine wpAnyH_take (i := 4) (v := ?_) rfl (by kernel_rfl) (by kernel_rfl) (by kernel_rfl) (fun _ _ _ h => h) (Or.inl ⟨by rfl, ?_⟩) hHeld ?_; rotate_left; (· (intro w' hSw; go_simp; try with_reducible rfl)); (try simp only [List.getElem_toArray, List.getElem_cons_zero, List.getElem_cons_succ, Act.put, List.setIfInBounds_toArray, List.set_cons_zero, List.set_cons_succ])); (refine wpAnyH_take (i := 10) (v := ?_) rfl (by kernel_rfl) (by kernel_rfl) (by kernel_rfl) (fun _ _ _ h => h) (Or.inl ⟨by rfl, ?_⟩) hHeld ?_; rotate_left; (· (intro w' hSw; go_simp; try with_reducible rfl)); (try simp only [List.getElem_toArray, List.getElem_cons_zero, List.getElem_cons_succ, Act.put, List.setIfInBounds_toArray, List.set_cons_zero, List.set_cons_succ])); (refine wpAnyH_take (i := 12) (v := ?_) rfl (by kernel_rfl) (by kernel_rfl) (by kernel_rfl) (fun _ _ _ h => h) (Or.inl ⟨by rfl, ?_⟩) hHeld ?_; rotate_left; (· (intro w' hSw; go_simp; try with_reducible rfl)); (try simp only [List.getElem_toArray, List.getElem_cons_zero, List.getElem_cons_succ, Act.put, List.setIfInBounds_toArray, List.set_cons_zero, List.set_cons_succ]))
      (refine wpAnyH_take (i := 3) (v := .slice (some ⟨g, 0, none⟩) n cap) rfl (by kernel_rfl) (by kernel_rfl) (by kernel_rfl) (fun _ _ _ h => h) (Or.inl ⟨by rfl, ?_⟩) hHeld ?_; (· (intro w' hSw; have q := C24.out w' hSw; clear hSw; go_simp; try with_reducible rfl)); (try simp only [List.getElem_toArray, List.getElem_cons_zero, List.getElem_cons_succ, Act.put, List.setIfInBounds_toArray, List.set_cons_zero, List.set_cons_succ]))
      (refine wpAnyH_take (i := 11) (v := .slice (some ⟨g, 0, none⟩) n cap) rfl (by kernel_rfl) (by kernel_rfl) (by kernel_rfl) (fun _ _ _ h => h) (Or.inl ⟨by rfl, ?_⟩) hHeld ?_; (· (intro w' hSw; have q := C24.out w' hSw; clear hSw; go_simp; try with_reducible rfl)); (try simp only [List.getElem_toArray, List.getElem_cons_zero, List.getElem_cons_succ, Act.put, List.setIfInBounds_toArray, List.set_cons_zero, List.set_cons_succ]))
      (refine wpAnyH_take (i := 5) (v := ?_) rfl (by kernel_rfl) (by kernel_rfl) (by kernel_rfl) (fun _ _ _ h => h) (Or.inl ⟨by rfl, ?_⟩) hHeld ?_; rotate_left; (· (intro w' hSw; go_simp; try with_reducible rfl)); (try simp only [List.getElem_toArray, List.getElem_cons_zero, List.getElem_cons_succ, Act.put, List.setIfInBounds_toArray, List.set_cons_zero, List.set_cons_succ])); (refine wpAnyH_take (i := 6) (v := ?_) rfl (by kernel_rfl) (by kernel_rfl) (by kernel_rfl) (fun _ _ _ h => h) (Or.inl ⟨by rfl, ?_⟩) hHeld ?_; rotate_left; (· (intro w' hSw; go_simp; try with_reducible rfl)); (try simp only [List.getElem_toArray, List.getElem_cons_zero, List.getElem_cons_succ, Act.put, List.setIfInBounds_toArray, List.set_cons_zero, List.set_cons_succ])); (refine wpAnyH_take (i := 13) (v := ?_) rfl (by kernel_rfl) (by kernel_rfl) (by kernel_rfl) (fun _ _ _ h => h) (Or.inl ⟨by rfl, ?_⟩) hHeld ?_; rotate_left; (· (intro w' hSw; go_simp; try with_reducible rfl)); (try simp only [List.getElem_toArray, List.getElem_cons_zero, List.getElem_cons_succ, Act.put, List.setIfInBounds_toArray, List.set_cons_zero, List.set_cons_succ])); (refine wpAnyH_take (i := 14) (v := ?_) rfl (by kernel_rfl) (by kernel_rfl) (by kernel_rfl) (fun _ _ _ h => h) (Or.inl ⟨by rfl, ?_⟩) hHeld ?_; rotate_left; (· (intro w' hSw; go_simp; try with_reducible rfl)); (try simp only [List.getElem_toArray, List.getElem_cons_zero, List.getElem_cons_succ, Act.put, List.setIfInBounds_toArray, List.set_cons_zero, List.set_cons_succ]))
      (refine wpAnyH_take (i := 7) (v := .int .i64 (p : Int)) rfl (by kernel_rfl) (by kernel_rfl) (by kernel_rfl) (fun _ _ _ h => h) (Or.inl ⟨by rfl, ?_⟩) hHeld ?_; (· (intro w' hSw; have q := C0.out w' hSw; clear hSw; go_simp; try with_reducible rfl)); (try simp only [List.getElem_toArray, List.getElem_cons_zero, List.getElem_cons_succ, Act.put, List.setIfInBounds_toArray, List.set_cons_zero, List.set_cons_succ]))
      (refine wpAnyH_take (i := 15) (v := .int .i64 (q : Int)) rfl (by kernel_rfl) (by kernel_rfl) (by kernel_rfl) (fun _ _ _ h => h) (Or.inl ⟨by rfl, ?_⟩) hHeld ?_; (· (intro w' hSw; have q := C1.out w' hSw; clear hSw; go_simp; try with_reducible rfl)); (try simp only [List.getElem_toArray, List.getElem_cons_zero, List.getElem_cons_succ, Act.put, List.setIfInBounds_toArray, List.set_cons_zero, List.set_cons_succ]))
      have hKeep := hHeld
      (refine wpAnyH_ready (rs := [8]) (by kernel_rfl) (by simp) ?_; refine AllReadyH.cons (o := _) rfl (fun K hK => ?_) AllReadyH.nil; (simp only [List.getElem_toArray, List.getElem_cons_zero, List.getElem_cons_succ, Region.wanted, if_true]))
      go_simp
      refine (KP.out _).mono ?_
      rintro e w' ⟨rfl, rfl⟩
      dsimp only
      (try simp only [List.getElem_toArray, List.getElem_cons_zero, List.getElem_cons_succ, Act.put, List.setIfInBounds_toArray, List.set_cons_zero, List.set_cons_succ])
      refine hK.out _ _ hKeep (fun hHeld => ?_)
      clear hK K
      (refine wpAnyH_take (i := 9) (v := ?_) rfl (by kernel_rfl) (by kernel_rfl) (by kernel_rfl) (fun _ _ _ h => h) (Or.inl ⟨by rfl, ?_⟩) hHeld ?_; rotate_left; (· (intro w' hSw; go_simp; try with_reducible rfl)); (try simp only [List.getElem_toArray, List.getElem_cons_zero, List.getElem_cons_succ, Act.put, List.setIfInBounds_toArray, List.set_cons_zero, List.set_cons_succ]))
      (refine wpAnyH_ready (rs := [16]) (by kernel_rfl) (by simp) ?_; refine AllReadyH.cons (o := _) rfl (fun K hK => ?_) AllReadyH.nil; (simp only [List.getElem_toArray, List.getElem_cons_zero, List.getElem_cons_succ, Region.wanted, if_true]))
      go_simp
      refine (KQ.out _).mono ?_
      rintro e w' ⟨rfl, rfl⟩
      dsimp only
      (try simp only [List.getElem_toArray, List.getElem_cons_zero, List.getElem_cons_succ, Act.put, List.setIfInBounds_toArray, List.set_cons_zero, List.set_cons_succ])
      refine hK.out _ _ hKeep (fun hHeld => ?_)
      clear hK K
      (refine wpAnyH_take (i := 17) (v := ?_) rfl (by kernel_rfl) (by kernel_rfl) (by kernel_rfl) (fun _ _ _ h => h) (Or.inl ⟨by rfl, ?_⟩) hHeld ?_; rotate_left; (· (intro w' hSw; go_simp; try with_reducible rfl)); (try simp only [List.getElem_toArray, List.getElem_cons_zero, List.getElem_cons_succ, Act.put, List.setIfInBounds_toArray, List.set_cons_zero, List.set_cons_succ])); (refine wpAnyH_take (i := 18) (v := ?_) rfl (by kernel_rfl) (by kernel_rfl) (by kernel_rfl) (fun _ _ _ h => h) (Or.inl ⟨by rfl, ?_⟩) hHeld ?_; rotate_left; (· (intro w' hSw; go_simp; try with_reducible rfl)); (try simp only [List.getElem_toArray, List.getElem_cons_zero, List.getElem_cons_succ, Act.put, List.setIfInBounds_toArray, List.set_cons_zero, List.set_cons_succ]))
      refine wpAnyH_done (by kernel_rfl) ?_ _
      have K9 : Kept wr wr.drew := (kept_refl wr).drewN 1
      replace RY := RY.below K9
      replace GR := Lib.hid (GR.out.below K9)
      replace GB := Lib.hid (GB.out.call K9)
      clear hHeld hKeep K9 C0 C1 C24 A1 A2 A3 KP KQ
      go_wp2_with fail
      go_roundw
      case rel => exact ⟨k + 1, by omega, by go_num, by rw [S.out], RY, GR, GB⟩
      case measure => simp [intOf]; omega
    · obtain rfl : k = n := by omega
      have hnn : decide ((k : Int) < (k : Int)) = false := by simp
      go_wp2_with fail
      go_ret
      exact ⟨rfl, GB.out⟩

set_option maxHeartbeats 1600000 in
set_option maxRecDepth 100000 in
theorem specText11 (ns fs : List Int) (v : Value) (n b : Nat) (w : World) (h24 : ns.length = 24) (hn : n ≤ 1048576) (h : Rw w b v n fs) :
    Calls Try.prog 20 #[rpV ns v] w fun e w' => e = .returned (.tuple #[.string (txA ns fs n), .bool (rpOk ns fs n)]) ∧ Kept w w' := by
  have RY := Ry.box (v := v) w 32 h24
  have HB := Lib.hid ((kept_refl w).alloc (.cells (rpC ns v).toArray 32))
  have HR := Lib.hid (h.alloc (.cells (rpC ns v).toArray 32))
  clear h
  unfold rpV
  go_enter Try.func20, Try.ntmps20
  go_wp2_with (refine guardY (isLdY 32) ?_ ?_; (· rfl); refine load_ry rfl 32 _ rfl w.heap.size rfl _ _ _ RY _ Try.underlying32 rfl ?_ ?_; (· kernel_rfl))
  refine (specIsReplay ns fs v n b _ h24 hn HR.out).mono ?_
  rintro e w1 ⟨rfl, b1⟩
  replace RY := RY.below b1
  replace HB := Lib.hid (HB.out.call b1)
  replace HR := Lib.hid (HR.out.below b1)
  clear b1
  cases hok : rpOk ns fs n with
  | false =>
    have E := Lib.hid (tx_no hok)
    have OKH := Lib.hid hok
    clear hok
    go_wp2_with fail
    go_ret2
    exact ⟨by rw [E.out, OKH.out]; rfl, HB.out⟩
  | true =>
    have E := Lib.hid (tx_yes hok)
    have OKH := Lib.hid hok
    clear hok
    go_wp2_with (refine guardY (isLdY 32) ?_ ?_; (· rfl); refine load_ry rfl 32 _ rfl w.heap.size rfl _ _ _ RY _ Try.underlying32 rfl ?_ ?_; (· kernel_rfl))
    refine (l11Write_any ns fs v n b _ h24 OKH.out HR.out).mono ?_
    rintro e w2 ⟨rfl, b2⟩
    have S1 := Lib.hid (HB.out.call b2)
    clear b2 HB
    go_wp2_with fail
    go_ret2
    exact ⟨by rw [E.out, OKH.out]; rfl, S1.out⟩
end Go.Proofs.Ytalngdccjoafhab.base
