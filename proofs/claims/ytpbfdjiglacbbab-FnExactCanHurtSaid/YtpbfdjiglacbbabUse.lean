/-
  Which pours are useful: plain mathematics, and the model's side, walked.
-/
import Derived.Test.YtpbfdjiglacbbabPoursI
import Derived.Test.YtpbfdjiglacbbabSort
namespace Go.Proofs.Ytpbfdjiglacbbab.base
open Go.ChangeShapes Go.WideShapes Go.ChangeAt Go.RowKit
set_option linter.unusedVariables false
set_option linter.unusedSimpArgs false

theorem pours_at (ns : List Int) : ∀ m, m ≤ 36 → (poursF ns m).length = poursN ns m * 2 ∧ ∀ j, j < poursN ns m → ∃ p q : Nat, p < 6 ∧ q < 6 ∧ 0 < canN (tub ns p) (tub ns q) ∧ (poursF ns m).getD (j * 2) 0 = (p : Int) ∧ (poursF ns m).getD (j * 2 + 1) 0 = (q : Int)
  | 0, _ => by rw [(pours0 ns).1, (pours0 ns).2]; exact ⟨rfl, fun j hj => by omega⟩
  | m + 1, hm => by
    obtain ⟨h1, h2⟩ := pours_at ns m (by omega)
    by_cases hc : m / 6 ≠ m % 6 ∧ 0 < canN (tub ns (m / 6)) (tub ns (m % 6))
    · have e : poursF ns (m + 1) = poursF ns m ++ [((m / 6 : Nat) : Int), ((m % 6 : Nat) : Int)] := by rw [poursF, if_pos hc]
      have en : poursN ns (m + 1) = poursN ns m + 1 := by unfold poursN; rw [e, List.length_append]; simp
      rw [e, en]
      refine ⟨by rw [List.length_append, h1]; simp; omega, fun j hj => ?_⟩
      by_cases hjn : j < poursN ns m
      · obtain ⟨p, q, a1, a2, a3, a4, a5⟩ := h2 j hjn
        refine ⟨p, q, a1, a2, a3, ?_, ?_⟩
        · rw [← a4, List.getD_eq_getElem?_getD, List.getD_eq_getElem?_getD, List.getElem?_append_left (by omega)]
        · rw [← a5, List.getD_eq_getElem?_getD, List.getD_eq_getElem?_getD, List.getElem?_append_left (by omega)]
      · obtain rfl : j = poursN ns m := by omega
        refine ⟨m / 6, m % 6, by omega, by omega, hc.2, ?_, ?_⟩
        · rw [List.getD_eq_getElem?_getD, List.getElem?_append_right (by omega), h1, Nat.sub_self]; rfl
        · rw [List.getD_eq_getElem?_getD, List.getElem?_append_right (by omega), h1, Nat.add_sub_cancel_left]; rfl
    · have e : poursF ns (m + 1) = poursF ns m := by rw [poursF, if_neg hc]
      have en : poursN ns (m + 1) = poursN ns m := by unfold poursN; rw [e]
      rw [e, en]; exact ⟨h1, h2⟩
def idl (ns : List Int) (p q : Nat) : Bool := decide (topN (tub ns p) = lay (tub ns p)) && decide (lay (tub ns q) = 0)
def fstP (ns : List Int) (k : Nat) : Nat := ((poursF ns 36).getD (k * 2) 0).toNat
def sndP (ns : List Int) (k : Nat) : Nat := ((poursF ns 36).getD (k * 2 + 1) 0).toNat
/-- The useful ones of the first k pours, flat. -/
def usefF (ns : List Int) : Nat → List Int
  | 0 => []
  | k + 1 => if idl ns (fstP ns k) (sndP ns k) = true then usefF ns k else usefF ns k ++ [(fstP ns k : Int), (sndP ns k : Int)]
def usefN (ns : List Int) (k : Nat) : Nat := (usefF ns k).length / 2
theorem usefN_le (ns : List Int) : ∀ k, usefN ns k ≤ k
  | 0 => by unfold usefN; rw [usefF]; simp
  | k + 1 => by
    have := usefN_le ns k
    unfold usefN at this ⊢
    rw [usefF]
    split
    · omega
    · rw [List.length_append]; simp; omega
theorem usef0 (ns : List Int) : usefN ns 0 = 0 ∧ usefF ns 0 = [] := ⟨by unfold usefN; rw [usefF]; rfl, rfl⟩
theorem usef_idle {ns : List Int} {k : Nat} (h : idl ns (fstP ns k) (sndP ns k) = true) : usefF ns (k + 1) = usefF ns k ∧ usefN ns (k + 1) = usefN ns k := by
  have e : usefF ns (k + 1) = usefF ns k := by rw [usefF, if_pos h]
  exact ⟨e, by unfold usefN; rw [e]⟩
theorem usef_new {ns : List Int} {k : Nat} (h : idl ns (fstP ns k) (sndP ns k) = false) : usefF ns (k + 1) = usefF ns k ++ [(fstP ns k : Int), (sndP ns k : Int)] ∧ usefN ns (k + 1) = usefN ns k + 1 := by
  have e : usefF ns (k + 1) = usefF ns k ++ [(fstP ns k : Int), (sndP ns k : Int)] := by rw [usefF, if_neg (by rw [h]; simp)]
  exact ⟨e, by unfold usefN; rw [e, List.length_append]; simp⟩
theorem pour_k (ns : List Int) (k : Nat) (hk : k < poursN ns 36) : fstP ns k < 6 ∧ sndP ns k < 6 ∧ 0 < canN (tub ns (fstP ns k)) (tub ns (sndP ns k)) ∧ (poursF ns 36).getD (k * 2) 0 = (fstP ns k : Int) ∧ (poursF ns 36).getD (k * 2 + 1) 0 = (sndP ns k : Int) := by
  obtain ⟨p, q, a1, a2, a3, a4, a5⟩ := (pours_at ns 36 (Nat.le_refl _)).2 k hk
  have e1 : fstP ns k = p := by unfold fstP; rw [a4]; simp
  have e2 : sndP ns k = q := by unfold sndP; rw [a5]; simp
  rw [e1, e2]; exact ⟨a1, a2, a3, a4, a5⟩
theorem can_lay {s t : List Int} (hs : s.length = 4) (vs : vT s = true) (h : 0 < canN s t) : lay s ≠ 0 := by
  intro h0
  have := (tubeFacts hs vs).none.1 h0
  unfold canN at h
  rw [this] at h
  split at h <;> simp at h
def usefFA (ns : List Int) : List Int := if vR ns = true then usefF ns (poursN ns 36) else []
def usefNA (ns : List Int) : Nat := if vR ns = true then usefN ns (poursN ns 36) else 0
theorem usefNA_le (ns : List Int) : usefNA ns ≤ 36 := by
  unfold usefNA
  split
  · exact Nat.le_trans (usefN_le ns _) (poursN_le ns 36)
  · omega
def UsefPost (ns : List Int) (w : World) (e : Ending) (w' : World) : Prop := ∃ v : Value, e = .returned (.tuple #[v, .bool (vR ns)]) ∧ Prs w' w.heap.size v (usefNA ns) (usefFA ns) ∧ Kept w w'

set_option maxHeartbeats 800000 in
theorem l2Idle_any (ns : List Int) (p q : Nat) (w : World) (h24 : ns.length = 24) (hv : vR ns = true) (hp : p < 6) (hq : q < 6) (hc : lay (tub ns p) ≠ 0) :
    Calls Try.prog 37 #[.agg (ints ns).toArray, .int .i64 (p : Nat), .int .i64 (q : Nat)] w fun e w' => e = .returned (.bool (idl ns p q)) ∧ Kept w w' := by
  have HB := Lib.hid ((kept_refl w).alloc (.cells (ints ns).toArray 28))
  have H := Has.box w 28 h24 (by omega)
  have h4 := tub_len ns p h24 hp
  have hvt := vR_tub hv p hp
  have F := Lib.hid (sortFacts h4 hvt)
  have k4 := tub_len ns q h24 hq
  have kvt := vR_tub hv q hq
  have HC := Lib.hid hc
  have hpi : (p : Int) < 6 := by omega
  have hqi : (q : Int) < 6 := by omega
  clear hc hv
  go_enter Try.func37, Try.ntmps37
  go_wp2_with (refine load_tub rfl 22 _ rfl _ (p) _ rfl ?_ ?_ ?_ ?_ _ Try.underlying22 rfl ?_ ?_; (· (first | rfl | omega)); rotate_left; (· (repeat (first | (with_reducible assumption) | ((with_reducible refine Has.box _ _ ?_ ?_) <;> (first | assumption | decide)) | (with_reducible refine Has.alloc ?_ _) | ((with_reducible refine Has.putOther ?_ _ _ ?_); rotate_left; omega; skip) | ((with_reducible refine Has.below ?_ ?_); rotate_left; assumption)))); (· omega); (· kernel_rfl))
  refine (l2Runs_any (tub ns p) _ h4 hvt).mono ?_
  rintro e w1 ⟨v, rfl, q1, b1⟩
  have H1 := H.below b1
  have HB1 := Lib.hid (HB.out.call b1)
  obtain ⟨a, cap, rfl⟩ : ∃ a cap, v = .slice a (runsN (tub ns p) (lay (tub ns p))) cap := by
    rcases q1.2 with ⟨h0, h1⟩ | ⟨g, cap, cur, h0, _⟩
    · exact ⟨_, _, by rw [h1]; exact h0⟩
    · exact ⟨_, _, h0⟩
  clear H HB q1 b1
  by_cases h1 : runsN (tub ns p) (lay (tub ns p)) = 1
  · have T := Lib.hid (F.out.one.1 h1).2
    rw [h1]
    clear h1
    go_wp2_with (refine load_tub rfl 22 _ rfl _ (q) _ rfl ?_ ?_ ?_ ?_ _ Try.underlying22 rfl ?_ ?_; (· (first | rfl | omega)); rotate_left; (· (repeat (first | (with_reducible assumption) | ((with_reducible refine Has.box _ _ ?_ ?_) <;> (first | assumption | decide)) | (with_reducible refine Has.alloc ?_ _) | ((with_reducible refine Has.putOther ?_ _ _ ?_); rotate_left; omega; skip) | ((with_reducible refine Has.below ?_ ?_); rotate_left; assumption)))); (· omega); (· kernel_rfl))
    refine (l2Many_any (tub ns q) _ k4 kvt).mono ?_
    rintro e w2 ⟨rfl, b2⟩
    have HB2 := Lib.hid (HB1.out.call b2)
    clear b2
    go_wp2_with fail
    go_ret
    exact ⟨ret_bool (by unfold idl; rw [decide_eq_true T.out, Bool.true_and, Bool.eq_iff_iff]; simp), HB2.out⟩
  · have T := Lib.hid (show ¬ topN (tub ns p) = lay (tub ns p) from fun h => h1 (F.out.one.2 ⟨HC.out, h⟩))
    have e1 : (((runsN (tub ns p) (lay (tub ns p)) : Nat) : Int) == 1) = false := by simp; omega
    have e2 : (runsN (tub ns p) (lay (tub ns p)) == 1) = false := by simp; omega
    clear h1
    go_wp2_with fail
    go_ret
    exact ⟨ret_bool (by unfold idl; rw [decide_eq_false T.out]; rfl), HB1.out⟩
end Go.Proofs.Ytpbfdjiglacbbab.base
