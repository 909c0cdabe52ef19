/-
  Pours by a rule, on the program's side, walked.
-/
import Derived.Test.YtcedpjjfcfeokabMvdI
namespace Go.Proofs.Ytcedpjjfcfeokab.base
open Go.ChangeShapes Go.WideShapes Go.ChangeAt Go.RowKit
set_option linter.unusedVariables false
set_option linter.unusedSimpArgs false

set_option maxHeartbeats 3200000 in
set_option maxRecDepth 100000 in
theorem implPourBy (ns ds : List Int) (x i j : Int) (w : World) (h24 : ns.length = 24) (h6 : ds.length = 6) :
    Calls Try.prog 33 #[row ns, row ds, .int .i64 x, .int .i64 i, .int .i64 j] w fun e w' => e = .returned (.tuple #[.agg (ints (pbR ns ds x i j)).toArray, .int .i64 (pbN ns ds x i j), .bool (pbOk ns ds x i j)]) ∧ Kept w w' := by
  have HB := Lib.hid ((((kept_refl w).alloc (.cells (ints ns).toArray 30)).alloc (.cells (ints ds).toArray 26)).alloc (.cells #[.int .i64 0, .int .i64 0, .int .i64 0, .int .i64 0, .int .i64 0, .int .i64 0, .int .i64 0, .int .i64 0, .int .i64 0, .int .i64 0, .int .i64 0, .int .i64 0, .int .i64 0, .int .i64 0, .int .i64 0, .int .i64 0, .int .i64 0, .int .i64 0, .int .i64 0, .int .i64 0, .int .i64 0, .int .i64 0, .int .i64 0, .int .i64 0] 30))
  have H := ((Has.box w 30 h24 (by omega)).alloc (.cells (ints ds).toArray 26)).alloc (.cells #[.int .i64 0, .int .i64 0, .int .i64 0, .int .i64 0, .int .i64 0, .int .i64 0, .int .i64 0, .int .i64 0, .int .i64 0, .int .i64 0, .int .i64 0, .int .i64 0, .int .i64 0, .int .i64 0, .int .i64 0, .int .i64 0, .int .i64 0, .int .i64 0, .int .i64 0, .int .i64 0, .int .i64 0, .int .i64 0, .int .i64 0, .int .i64 0] 30)
  have D := ((Has.box (w.alloc (.cells (ints ns).toArray 30)) 26 h6 (by omega)).at (size1 _ _)).alloc (.cells #[.int .i64 0, .int .i64 0, .int .i64 0, .int .i64 0, .int .i64 0, .int .i64 0, .int .i64 0, .int .i64 0, .int .i64 0, .int .i64 0, .int .i64 0, .int .i64 0, .int .i64 0, .int .i64 0, .int .i64 0, .int .i64 0, .int .i64 0, .int .i64 0, .int .i64 0, .int .i64 0, .int .i64 0, .int .i64 0, .int .i64 0, .int .i64 0] 30)
  have Z := (Has.zero24 ((w.alloc (.cells (ints ns).toArray 30)).alloc (.cells (ints ds).toArray 26)) 30).at (c := w.heap.size + 1 + 1) (by simp)
  have hz : z24.length = 24 := rfl
  have lg := pgR_len ns ds x h6
  rw [row_ints, row_ints]
  go_enter Try.func33, Try.ntmps33
  go_wp2_with (first | (refine load_has rfl 30 _ rfl _ rfl ?_ 24 ?_ _ Try.underlying30 rfl ?_ ?_; rotate_left; (· (repeat (first | (with_reducible assumption) | ((with_reducible refine Has.box _ _ ?_ ?_) <;> (first | assumption | decide)) | (with_reducible refine Has.alloc ?_ _) | ((with_reducible refine Has.putOther ?_ _ _ ?_); rotate_left; omega; skip) | ((with_reducible refine Has.below ?_ ?_); rotate_left; assumption)))); (· kernel_rfl)) | (refine load_has rfl 26 _ rfl _ rfl ?_ 6 ?_ _ Try.underlying26 rfl ?_ ?_; rotate_left; (· (repeat (first | (with_reducible assumption) | ((with_reducible refine Has.box _ _ ?_ ?_) <;> (first | assumption | decide)) | (with_reducible refine Has.alloc ?_ _) | ((with_reducible refine Has.putOther ?_ _ _ ?_); rotate_left; omega; skip) | ((with_reducible refine Has.below ?_ ?_); rotate_left; assumption)))); (· kernel_rfl)))
  refine (pouringBy_any ns ds x _ h24 h6).mono ?_
  rintro e w1 ⟨rfl, b1⟩
  have O1 : ∀ v ∈ pgR ns ds x, v.oneCell' = true := by
    unfold pgR; split
    · exact pg_one ds _ rfl
    · exact pg_one _ _ rfl
  have hs1 : w.heap.size + 1 + 1 < w1.heap.size := (Z.below b1).lt
  have H1 := (H.below b1).alloc (.cells (pgR ns ds x).toArray 63)
  have Z1 := (Z.below b1).alloc (.cells (pgR ns ds x).toArray 63)
  have G1 := Bk.box w1 (pgR ns ds x) 63
  have HB1 := Lib.hid ((HB.out.call b1).alloc (.cells (pgR ns ds x).toArray 63))
  clear H D Z HB b1
  generalize hg : pgR ns ds x = g at *
  by_cases hok : byOk ns ds x = true
  · obtain rfl : g = pgA ds x := by rw [← hg]; unfold pgR; rw [if_pos hok]
    clear hg
    have HOK := Lib.hid hok
    have PB := Lib.hid (pb_mvI ns ds x i j hok)
    rw [hok]
    clear hok
    go_wp2_with (first | (refine store_newbk rfl 63 _ _ rfl _ _ _ rfl _ rfl (pgA ds x) rfl rfl ?_ O1 ?_ ?_; (· exact lg); (· kernel_rfl)) | (refine load_bk rfl 63 _ rfl _ rfl _ _ G1 _ Try.underlying63 rfl ?_ ?_; (· rw [lg]; kernel_rfl)) | (refine load_has rfl 30 _ rfl _ rfl ?_ 24 ?_ _ Try.underlying30 rfl ?_ ?_; rotate_left; (· (repeat (first | (with_reducible assumption) | ((with_reducible refine Has.box _ _ ?_ ?_) <;> (first | assumption | decide)) | (with_reducible refine Has.alloc ?_ _) | ((with_reducible refine Has.putOther ?_ _ _ ?_); rotate_left; omega; skip) | ((with_reducible refine Has.below ?_ ?_); rotate_left; assumption)))); (· kernel_rfl)))
    refine (moved_any ns ds x i j _ h24 h6 HOK.out).mono ?_
    rintro e w2 ⟨rfl, b2⟩
    have H2 := H1.below b2
    have Z2 := Z1.below b2
    have HB2 := Lib.hid (HB1.out.call b2)
    clear H1 Z1 G1 HB1 b2 O1 lg
    generalize pgA ds x = gg at *
    by_cases h0 : mvI ns ds x i j = 0
    · have O := Lib.hid (show pbOk ns ds x i j = false by rw [PB.out, h0]; rfl)
      have S1 := Lib.hid (Z2.putAll z24 rfl)
      have S2 := Lib.hid (HB2.out.puts (b := w.heap.size + 1 + 1) (by omega) 0 (ints z24))
      rw [h0]
      clear h0
      go_wp2_with (first | (refine build_law rfl 30 rfl _ buildRack ?_) | (refine store_at rfl 30 _ _ rfl _ _ rfl rfl ?_ 24 ?_ ?_ ?_ ?_; rotate_left; (· (repeat (first | (with_reducible assumption) | ((with_reducible refine Has.box _ _ ?_ ?_) <;> (first | assumption | decide)) | (with_reducible refine Has.alloc ?_ _) | ((with_reducible refine Has.putOther ?_ _ _ ?_); rotate_left; omega; skip) | ((with_reducible refine Has.below ?_ ?_); rotate_left; assumption)))); (· (first | assumption | rfl)); (· kernel_rfl)))
      exact bodyPost_ret (res_has2 rfl _ _ (w.heap.size + 1 + 1) z24 24 _ (.int .i64 0) (.bool false) rfl rfl rfl S1.out Try.underlying30 rfl (by kernel_rfl)) rfl ⟨by rw [(pb_no O.out).1, (pb_no O.out).2, O.out], S2.out⟩
    · have O := Lib.hid (show pbOk ns ds x i j = true by rw [PB.out]; exact decide_eq_true (by omega))
      obtain ⟨hf, _, p, q, rfl, rfl, hp, hq, hpos⟩ := pbOk_of O.out
      have M := mv_moveOk h24 hf hp hq hpos
      have Y := pb_yes O.out
      rw [mvI_nat hp hq] at h0 ⊢
      have YR := Lib.hid Y.1
      have YN := Lib.hid Y.2
      have hT := M.len24
      have hm4 := M.hm
      have hl4 := (tubeFacts (tub_len ns p h24 hp) (vR_tub (fit_of hf).1 p hp)).lay4
      have KM := Lib.hid (fun W => move_any ns p q (mvN ns ds x p q) W M)
      obtain ⟨m, hm⟩ : ∃ m : Nat, mvN ns ds x p q = m := ⟨_, rfl⟩
      rw [hm] at h0 YR YN hT hm4 KM ⊢
      have n0 : ((m : Int) == 0) = false := by simp; omega
      have n1 : (m == 0) = false := by simp; omega
      clear h0 hf M Y hpos hm
      go_wp2_with (refine load_has rfl 30 _ rfl _ rfl ?_ 24 ?_ _ Try.underlying30 rfl ?_ ?_; rotate_left; (· (repeat (first | (with_reducible assumption) | ((with_reducible refine Has.box _ _ ?_ ?_) <;> (first | assumption | decide)) | (with_reducible refine Has.alloc ?_ _) | ((with_reducible refine Has.putOther ?_ _ _ ?_); rotate_left; omega; skip) | ((with_reducible refine Has.below ?_ ?_); rotate_left; assumption)))); (· kernel_rfl))
      refine (KM.out _).mono ?_
      rintro e w3 ⟨rfl, b3⟩
      have Z3 := Z2.below b3
      have S1 := Lib.hid (Z3.putAll (moveT ns p q m) hT)
      have S2 := Lib.hid ((HB2.out.call b3).puts (b := w.heap.size + 1 + 1) (by omega) 0 (ints (moveT ns p q m)))
      clear H2 Z2 HB2 b3 KM
      go_wp2_with (refine store_at rfl 30 _ _ rfl _ _ rfl rfl ?_ 24 ?_ ?_ ?_ ?_; rotate_left; (· (repeat (first | (with_reducible assumption) | ((with_reducible refine Has.box _ _ ?_ ?_) <;> (first | assumption | decide)) | (with_reducible refine Has.alloc ?_ _) | ((with_reducible refine Has.putOther ?_ _ _ ?_); rotate_left; omega; skip) | ((with_reducible refine Has.below ?_ ?_); rotate_left; assumption)))); (· (first | assumption | rfl)); (· kernel_rfl))
      exact bodyPost_ret (res_has2 rfl _ _ (w.heap.size + 1 + 1) _ 24 _ (.int .i64 (m : Nat)) (.bool true) rfl rfl rfl S1.out Try.underlying30 rfl (by kernel_rfl)) rfl ⟨by rw [YR.out, YN.out, O.out], S2.out⟩
  · have hf : byOk ns ds x = false := by simpa using hok
    obtain rfl : g = pgZ := by rw [← hg]; unfold pgR; rw [hf]; rfl
    clear hg
    have O := Lib.hid (show pbOk ns ds x i j = false by
      unfold pbOk; rw [show (fitA ns ds && ruleV x) = false from hf]; rfl)
    rw [hf]
    clear hok hf
    have S1 := Lib.hid (Z1.putAll z24 rfl)
    have S2 := Lib.hid (HB1.out.puts (b := w.heap.size + 1 + 1) (by omega) 0 (ints z24))
    go_wp2_with (first | (refine build_law rfl 30 rfl _ buildRack ?_) | (refine store_newbk rfl 63 _ _ rfl _ _ _ rfl _ rfl pgZ rfl rfl ?_ O1 ?_ ?_; (· exact lg); (· kernel_rfl)) | (refine store_at rfl 30 _ _ rfl _ _ rfl rfl ?_ 24 ?_ ?_ ?_ ?_; rotate_left; (· (repeat (first | (with_reducible assumption) | ((with_reducible refine Has.box _ _ ?_ ?_) <;> (first | assumption | decide)) | (with_reducible refine Has.alloc ?_ _) | ((with_reducible refine Has.putOther ?_ _ _ ?_); rotate_left; omega; skip) | ((with_reducible refine Has.below ?_ ?_); rotate_left; assumption)))); (· (first | assumption | rfl)); (· kernel_rfl)))
    exact bodyPost_ret (res_has2 rfl _ _ (w.heap.size + 1 + 1) z24 24 _ (.int .i64 0) (.bool false) rfl rfl rfl S1.out Try.underlying30 rfl (by kernel_rfl)) rfl ⟨by rw [(pb_no O.out).1, (pb_no O.out).2, O.out], S2.out⟩
end Go.Proofs.Ytcedpjjfcfeokab.base
