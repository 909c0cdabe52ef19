/-
  Games on the program's side, walked: valid games, points, what a turn is worth, the value from those behind one turn.
-/
import Derived.Test.YtnldnjnnjfbhnabGmWZ
import Derived.Test.YtnldnjnnjfbhnabMapVZ
import Derived.Test.YtnldnjnnjfbhnabBlkW
import Derived.Shelf.Abstract
namespace Go.Proofs.Ytnldnjnnjfbhnab.base
open Go.ChangeShapes Go.WideShapes Go.ChangeAt Go.RowKit
set_option linter.unusedVariables false
set_option linter.unusedSimpArgs false

def gmOk (r : List Int) (n : Int) : Bool := vR r && decide (0 ≤ n ∧ n ≤ 3)
set_option maxHeartbeats 400000 in
theorem isGame_any (r : List Int) (n : Int) (w : World) (h24 : r.length = 24) :
    Calls Try.prog 33 #[row r, .int .i64 n] w fun e w' => e = .returned (.bool (gmOk r n)) ∧ Kept w w' := by
  have HB := Lib.hid ((kept_refl w).alloc (.cells (ints r).toArray 27))
  have H := Has.box w 27 h24 (by omega)
  have EG : Hid (gmOk r n = (vR r && decide (0 ≤ n ∧ n ≤ 3))) := Lib.hid rfl
  rw [row_ints]
  go_enter Try.func33, Try.ntmps33
  go_wp2_with (refine load_has rfl 27 _ rfl _ rfl ?_ 24 ?_ _ Try.underlying27 rfl ?_ ?_; rotate_left; (· (repeat (first | (with_reducible assumption) | ((with_reducible refine Has.box _ _ ?_ ?_) <;> (first | assumption | decide)) | (with_reducible refine Has.alloc ?_ _) | ((with_reducible refine Has.putOther ?_ _ _ ?_); rotate_left; omega; skip) | ((with_reducible refine Has.below ?_ ?_); rotate_left; assumption)))); (· kernel_rfl))
  refine (isRack_any r _ h24).mono ?_
  rintro e w1 ⟨rfl, b1⟩
  replace HB := Lib.hid (HB.out.call b1)
  clear H b1
  cases hv : vR r with
  | false =>
    have E := Lib.hid (show gmOk r n = false by rw [EG.out, hv]; rfl)
    clear hv
    go_wp2_with fail
    go_ret
    exact ⟨by rw [E.out]; rfl, HB.out⟩
  | true =>
    have EV := Lib.hid hv
    clear hv
    by_cases h0 : 0 ≤ n
    · by_cases h3 : n ≤ 3
      · have E := Lib.hid (show gmOk r n = true by rw [EG.out, EV.out, decide_eq_true ⟨h0, h3⟩]; rfl)
        have d0 : decide (0 ≤ n) = true := decide_eq_true h0
        have d3 : decide (n ≤ 3) = true := decide_eq_true h3
        go_wp2_with fail
        go_ret
        exact ⟨by rw [E.out]; rfl, HB.out⟩
      · have E := Lib.hid (show gmOk r n = false by rw [EG.out, EV.out, decide_eq_false (fun h => h3 h.2)]; rfl)
        have d0 : decide (0 ≤ n) = true := decide_eq_true h0
        have d3 : decide (n ≤ 3) = false := decide_eq_false h3
        go_wp2_with fail
        go_ret
        exact ⟨by rw [E.out]; rfl, HB.out⟩
    · have E := Lib.hid (show gmOk r n = false by rw [EG.out, EV.out, decide_eq_false (fun h => h0 h.1)]; rfl)
      have d0 : decide (0 ≤ n) = false := decide_eq_false h0
      go_wp2_with fail
      go_ret
      exact ⟨by rw [E.out]; rfl, HB.out⟩

theorem cmN_of {r : List Int} (h : vR r = true) : (cmFA r).length = cmN r := by unfold cmFA cmN; rw [if_pos h]
set_option maxHeartbeats 800000 in
theorem points_any (x y : Int) (t r : List Int) (w : World) (ht : t.length = 24) (hr : r.length = 24) (vt : vR t = true) (vr : vR r = true) :
    Calls Try.prog 41 #[row (x :: y :: t), row r] w fun e w' => e = .returned (.int .i64 ((cmN t : Int) - (cmN r : Int))) ∧ Kept w w' := by
  have l26 : (x :: y :: t).length = 26 := by rw [List.length_cons, List.length_cons, ht]
  have HB := Lib.hid (((kept_refl w).alloc (.cells (ints (x :: y :: t)).toArray 69)).alloc (.cells (ints r).toArray 27))
  have HT := (Has.box w 69 l26 (by omega)).alloc (.cells (ints r).toArray 27)
  have HR := (Has.box (w.alloc (.cells (ints (x :: y :: t)).toArray 69)) 27 hr (by omega)).at (size1 _ _)
  have EW := trn_rack x y t ht
  have K1 := Lib.hid (fun W => implComplete r W hr)
  have K2 := Lib.hid (fun W => implComplete t W ht)
  have E1 := Lib.hid (cmN_of vr)
  have E2 := Lib.hid (cmN_of vt)
  have b1 := cmN_le r
  have b2 := cmN_le t
  rw [row_ints, row_ints]
  go_enter Try.func41, Try.ntmps41
  go_wp2_with (refine load_has rfl 27 _ rfl _ rfl ?_ 24 ?_ _ Try.underlying27 rfl ?_ ?_; rotate_left; (· (repeat (first | (with_reducible assumption) | ((with_reducible refine Has.box _ _ ?_ ?_) <;> (first | assumption | decide)) | (with_reducible refine Has.alloc ?_ _) | ((with_reducible refine Has.putOther ?_ _ _ ?_); rotate_left; omega; skip) | ((with_reducible refine Has.below ?_ ?_); rotate_left; assumption)))); (· kernel_rfl))
  refine (K1.out _).mono ?_
  rintro e w1 ⟨v, rfl, q1, k1⟩
  obtain ⟨a1, c1, rfl⟩ := q1.shape
  rw [E1.out]
  replace HT := HT.below k1
  replace HB := Lib.hid (HB.out.call k1)
  clear q1 k1 HR
  go_wp2_with (refine load_sub rfl 27 _ rfl w.heap.size 2 24 _ rfl ?_ _ 26 HT _ EW ht _ Try.underlying27 rfl ?_ ?_; (· (first | rfl | omega)); (· kernel_rfl))
  refine (K2.out _).mono ?_
  rintro e w2 ⟨v, rfl, q2, k2⟩
  obtain ⟨a2, c2, rfl⟩ := q2.shape
  rw [E2.out]
  replace HB := Lib.hid (HB.out.call k2)
  clear q2 k2 HT
  have wr : IntKind.i64.wrap ((cmN t : Int) - (cmN r : Int)) = (cmN t : Int) - (cmN r : Int) := IntWalk.i64_in _ (by omega)
  go_wp2_with fail
  go_ret
  exact ⟨rfl, HB.out⟩

/-- The game's struct: what gives the points, and the value of a player without a turn. -/
def gmC (F : Nat) (no : Int) : List Value := [.func (Fn.func F) #[] #[], .int .i64 no]
theorem gmC_len (F : Nat) (no : Int) : (gmC F no).length = 2 := rfl
/-- A function that gives these points. -/
structure Pts (F : Nat) (pt : List Int → Nat → Int) : Prop where
  call : ∀ ns k (W : World), GR ns → k < usefNA ns → Calls Try.prog F #[.agg (ints (trn ns k)).toArray, .agg (ints ns).toArray] W fun e w' => e = .returned (.int .i64 (pt ns k)) ∧ Kept W w'
  enter : ∀ (x y : Value) (W : World), (callFunc F #[x, y]).run Try.prog W = .ok (.enter F #[x, y]) W
theorem ptsT : Pts 41 ptT :=
  ⟨fun ns k W G hk => points_any (upX ns k) (upY ns k) (nxR ns k) ns W (nx_good G k hk).1 G.1 (nx_good G k hk).2 G.2, fun x y W => enters_of Try.func41 (by kernel_rfl) rfl _ W⟩
/-- A map from racks to numbers, 0 elsewhere. -/
structure VM (w : World) (b : Nat) (K : List (List Int)) (V : List Int → Int) : Prop where
  own : OwnV Try.prog w 27 b K.length 24 (valF K V)
  out : ∀ l, l ∉ K → V l = 0
  le : ∀ l, -12 ≤ V l ∧ V l ≤ 12
theorem VM.below {w w' : World} {b : Nat} {K : List (List Int)} {V : List Int → Int} (h : VM w b K V) (k : Below w.heap.size w w') : VM w' b K V := ⟨h.own.below k, h.out, h.le⟩
theorem VM.alloc {w : World} {b : Nat} {K : List (List Int)} {V : List Int → Int} (h : VM w b K V) (o : Obj) : VM (w.alloc o) b K V := ⟨h.own.alloc o, h.out, h.le⟩
theorem VM.grown {w w' : World} {b : Nat} {K : List (List Int)} {V : List Int → Int} {r : Option Nat} (h : VM w b K V) (hg : w.grownBy w' r) (hne : some b ≠ r) : VM w' b K V := ⟨h.own.grown hg hne, h.out, h.le⟩
theorem VM.drew {w : World} {b : Nat} {K : List (List Int)} {V : List Int → Int} (h : VM w b K V) : VM w.drew b K V := ⟨h.own.block rfl, h.out, h.le⟩
theorem VM.puts {w : World} {b c : Nat} {K : List (List Int)} {V : List Int → Int} (h : VM w b K V) (o : Nat) (vs : List Value) (e : b ≠ c) : VM (w.setCells c o vs) b K V := ⟨OwnV.puts e vs o w h.own, h.out, h.le⟩

set_option maxHeartbeats 1600000 in
set_option maxRecDepth 100000 in
theorem worth_any (F : Nat) (no : Int) (pt : List Int → Nat → Int) (PF : Pts F pt) (gm : Gam pt no) (ns : List Int) (k : Nat) (G : GR ns) (hk : k < usefNA ns) (mb : Nat) (K : List (List Int)) (V : List Int → Int) (w : World) (M : VM w mb K V) :
    Calls Try.prog 64 #[.agg (gmC F no).toArray, row (trn ns k), row ns, .map (some mb)] w fun e w' => e = .returned (.int .i64 (pt ns k - V (nxR ns k))) ∧ Kept w w' := by
  have h24 := G.1
  have gx := nx_good G k hk
  have l26 := trn_len h24 k
  have ET : trn ns k = upX ns k :: upY ns k :: nxR ns k := rfl
  have hp := gm.pt6 ns k
  have hV := M.le (nxR ns k)
  have KC := Lib.hid (fun W => PF.call ns k W G hk)
  have FNf := PF.enter (.agg (ints (trn ns k)).toArray) (.agg (ints ns).toArray)
  have HB := Lib.hid ((((kept_refl w).alloc (.cells (gmC F no).toArray 54)).alloc (.cells (ints (trn ns k)).toArray 69)).alloc (.cells (ints ns).toArray 27))
  have BG := ((Bk.box w (gmC F no) 54).alloc (.cells (ints (trn ns k)).toArray 69)).alloc (.cells (ints ns).toArray 27)
  have HT := ((Has.box (w.alloc (.cells (gmC F no).toArray 54)) 69 l26 (by omega)).at (size1 _ _)).alloc (.cells (ints ns).toArray 27)
  have HR := (Has.box ((w.alloc (.cells (gmC F no).toArray 54)).alloc (.cells (ints (trn ns k)).toArray 69)) 27 h24 (by omega)).at (c := w.heap.size + 1 + 1) (by simp)
  have MM := Lib.hid (((M.alloc (.cells (gmC F no).toArray 54)).alloc (.cells (ints (trn ns k)).toArray 69)).alloc (.cells (ints ns).toArray 27))
  have ROW := Lib.hid (rack_row8G gx.1 gx.2)
  have KEY := Lib.hid (rack_key8G ROW.out)
  obtain ⟨t, ht⟩ : ∃ t, nxR ns k = t := ⟨_, rfl⟩
  rw [ht] at ET gx hV ROW KEY ⊢
  have g24 := gx.1
  have EW : ((trn ns k).drop 2).take 24 = t := by rw [ET]; exact trn_rack _ _ t g24
  obtain ⟨tt, htt⟩ : ∃ tt, trn ns k = tt := ⟨_, rfl⟩
  rw [htt] at l26 KC FNf HB BG HT HR MM EW ⊢
  have hi1 : (Try.prog.info? 69).map (·.size) = some (ints tt).length := by rw [ints_len, l26]; kernel_rfl
  have hi2 : (Try.prog.info? 27).map (·.size) = some (ints ns).length := by rw [ints_len, h24]; kernel_rfl
  have hi3 : (Try.prog.info? 27).map (·.size) = some (ints t).length := by rw [ints_len, g24]; kernel_rfl
  rw [row_ints, row_ints]
  have RT := Lib.hid (fun W (h : Has W (w.heap.size + 1) tt 26) => show W.rangeAt (w.heap.size + 1) 2 (ints t) by rw [← EW]; exact h.holds.sub 2 24)
  clear M ET ht htt G gx hk
  go_enter Try.func64, Try.ntmps64
  go_wp2_with fail
  generalize (((w.alloc (.cells (gmC F no).toArray 54)).alloc (.cells (ints tt).toArray 69)).alloc (.cells (ints ns).toArray 27)) = W at *
  replace HB := Lib.hid (keptDrew8G HB.out)
  replace MM := Lib.hid MM.out.drew
  refine wp_region_held_drew (S := fun w' => Bk w' w.heap.size (gmC F no) 54 ∧ Has w' (w.heap.size + 1) tt 26 ∧ Has w' (w.heap.size + 1 + 1) ns 24 ∧ VM w' mb K V) (by kernel_rfl) ⟨BG, HT.drew, HR.drew, MM.out⟩ (fun hHeld => ?_)
  clear BG HT HR
  generalize W.drew = WD at *
  (refine wpAnyH_take (i := 0) (v := ?_) rfl (by kernel_rfl) (by kernel_rfl) (by kernel_rfl) (fun _ _ _ h => h) (Or.inl ⟨by rfl, ?_⟩) hHeld ?_; rotate_left; (· (intro w' hSw; go_simp; try with_reducible rfl)); (try simp only [List.getElem_toArray, List.getElem_cons_zero, List.getElem_cons_succ, Act.put, List.setIfInBounds_toArray, List.set_cons_zero, List.set_cons_succ])); (refine wpAnyH_take (i := 5) (v := ?_) rfl (by kernel_rfl) (by kernel_rfl) (by kernel_rfl) (fun _ _ _ h => h) (Or.inl ⟨by rfl, ?_⟩) hHeld ?_; rotate_left; (· (intro w' hSw; go_simp; try with_reducible rfl)); (try simp only [List.getElem_toArray, List.getElem_cons_zero, List.getElem_cons_succ, Act.put, List.setIfInBounds_toArray, List.set_cons_zero, List.set_cons_succ])); (refine wpAnyH_take (i := 6) (v := ?_) rfl (by kernel_rfl) (by kernel_rfl) (by kernel_rfl) (fun _ _ _ h => h) (Or.inl ⟨by rfl, ?_⟩) hHeld ?_; rotate_left; (· (intro w' hSw; go_simp; try with_reducible rfl)); (try simp only [List.getElem_toArray, List.getElem_cons_zero, List.getElem_cons_succ, Act.put, List.setIfInBounds_toArray, List.set_cons_zero, List.set_cons_succ]))
  (refine wpAnyH_take (i := 1) (v := .func (Fn.func F) #[] #[]) rfl (by kernel_rfl) (by kernel_rfl) (by kernel_rfl) (fun _ _ _ h => h) (Or.inl ⟨by rfl, ?_⟩) hHeld ?_; (· (intro w' hSw; have q := hSw.1.cell 0 (v := .func (Fn.func F) #[] #[]) rfl; clear hSw; go_simp; try with_reducible rfl)); (try simp only [List.getElem_toArray, List.getElem_cons_zero, List.getElem_cons_succ, Act.put, List.setIfInBounds_toArray, List.set_cons_zero, List.set_cons_succ]))
  (refine wpAnyH_take (i := 2) (v := _) rfl (by kernel_rfl) (by kernel_rfl) (by kernel_rfl) (fun _ _ _ h => h) (yieldsIf_load_mid (by rfl) 69 _ rfl _ _ rfl (ints tt) _ (fun w' hSw => hSw.2.1.holds.range) Try.underlying69 rfl (hi1)) hHeld ?_; (try simp only [List.getElem_toArray, List.getElem_cons_zero, List.getElem_cons_succ, Act.put, List.setIfInBounds_toArray, List.set_cons_zero, List.set_cons_succ]))
  (refine wpAnyH_take (i := 3) (v := _) rfl (by kernel_rfl) (by kernel_rfl) (by kernel_rfl) (fun _ _ _ h => h) (yieldsIf_load_mid (by rfl) 27 _ rfl _ _ rfl (ints ns) _ (fun w' hSw => hSw.2.2.1.holds.range) Try.underlying27 rfl (hi2)) hHeld ?_; (try simp only [List.getElem_toArray, List.getElem_cons_zero, List.getElem_cons_succ, Act.put, List.setIfInBounds_toArray, List.set_cons_zero, List.set_cons_succ]))
  (refine wpAnyH_take (i := 7) (v := _) rfl (by kernel_rfl) (by kernel_rfl) (by kernel_rfl) (fun _ _ _ h => h) (yieldsIf_load_mid (by rfl) 27 _ rfl _ _ rfl (ints t) _ (fun w' hSw => RT.out w' hSw.2.1) Try.underlying27 rfl (hi3)) hHeld ?_; (try simp only [List.getElem_toArray, List.getElem_cons_zero, List.getElem_cons_succ, Act.put, List.setIfInBounds_toArray, List.set_cons_zero, List.set_cons_succ]))
  refine wpAnyH_take (i := 8) (v := .int .i64 (V t)) rfl (by kernel_rfl) (by kernel_rfl) (by kernel_rfl) (fun _ _ _ h => h) (Or.inl ⟨by rfl, ?_⟩) hHeld ?_
  · intro w' hSw
    have hg := valF_get hSw.2.2.2.out t
    rw [← hg]
    exact look_runV _ _ 92 rfl rackKeyed8G Try.underlying92 (zeroIntG _) hSw.2.2.2.own rfl (.agg (ints t).toArray) rfl t ROW.out KEY.out
  (try simp only [List.getElem_toArray, List.getElem_cons_zero, List.getElem_cons_succ, Act.put, List.setIfInBounds_toArray, List.set_cons_zero, List.set_cons_succ])
  (refine wpAnyH_ready (rs := [4]) (by kernel_rfl) (by simp) ?_; refine AllReadyH.cons (o := _) rfl (fun K hK => ?_) AllReadyH.nil; (simp only [List.getElem_toArray, List.getElem_cons_zero, List.getElem_cons_succ, Region.wanted, if_true]))
  go_simp
  refine (KC.out _).mono ?_
  rintro e w2 ⟨rfl, b2⟩
  dsimp only
  (try simp only [List.getElem_toArray, List.getElem_cons_zero, List.getElem_cons_succ, Act.put, List.setIfInBounds_toArray, List.set_cons_zero, List.set_cons_succ])
  replace HB := Lib.hid (HB.out.call b2)
  refine hK.out _ _ ⟨hHeld.1.below b2, hHeld.2.1.below b2, hHeld.2.2.1.below b2, hHeld.2.2.2.below b2⟩ (fun hHeld => ?_)
  clear hK K b2 KC
  have wx : IntKind.i64.wrap (pt ns k - V t) = pt ns k - V t := IntWalk.i64_in _ (by omega)
  (refine wpAnyH_take (i := 9) (v := ?_) rfl (by kernel_rfl) (by kernel_rfl) (by kernel_rfl) (fun _ _ _ h => h) (Or.inl ⟨by rfl, ?_⟩) hHeld ?_; rotate_left; (· (intro w' hSw; go_simp; try with_reducible rfl)); (try simp only [List.getElem_toArray, List.getElem_cons_zero, List.getElem_cons_succ, Act.put, List.setIfInBounds_toArray, List.set_cons_zero, List.set_cons_succ])); (refine wpAnyH_take (i := 10) (v := ?_) rfl (by kernel_rfl) (by kernel_rfl) (by kernel_rfl) (fun _ _ _ h => h) (Or.inl ⟨by rfl, ?_⟩) hHeld ?_; rotate_left; (· (intro w' hSw; go_simp; try with_reducible rfl)); (try simp only [List.getElem_toArray, List.getElem_cons_zero, List.getElem_cons_succ, Act.put, List.setIfInBounds_toArray, List.set_cons_zero, List.set_cons_succ]))
  refine wpAnyH_done (by kernel_rfl) ?_ _
  go_wp2_with fail
  go_ret
  exact ⟨rfl, HB.out⟩
end Go.Proofs.Ytnldnjnnjfbhnab.base
