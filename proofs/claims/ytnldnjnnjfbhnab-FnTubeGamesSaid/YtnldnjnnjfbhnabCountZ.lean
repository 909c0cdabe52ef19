/-
  How many layers have each color, on both sides, walked.
-/
/-
  Runs, bottoms, boundaries and bounds of a rack: plain mathematics.
-/
/-
  Runs, bottoms, boundaries, bounds and spare runs, on the model's side, walked.
-/
/-
  Runs, bottoms, boundaries and bounds, on the program's side, walked.
-/
import Derived.Test.YtnldnjnnjfbhnabSpecWZ
import Derived.Test.YtnldnjnnjfbhnabRackToZ
import Derived.Test.YtnldnjnnjfbhnabRunsZ

section
namespace Go.Proofs.Ytnldnjnnjfbhnab.base
open Go.ChangeShapes Go.WideShapes Go.ChangeAt Go.RowKit
set_option linter.unusedVariables false
set_option linter.unusedSimpArgs false

def z6 : List Int := [0, 0, 0, 0, 0, 0]
def bump (cs : List Int) (c : Nat) : List Int := cs.set c (cs.getD c 0 + 1)
def cntUp (ns : List Int) (k : Nat) : List Int := (ns.take k).foldl (fun cs x => bump cs x.toNat) z6
theorem cntUp_step (ns : List Int) (k : Nat) (h : k < ns.length) : cntUp ns (k + 1) = bump (cntUp ns k) (ns.getD k 0).toNat := by
  unfold cntUp
  rw [List.take_succ_eq_append_getElem h, List.foldl_append, List.getD_eq_getElem?_getD, List.getElem?_eq_getElem h]; rfl
theorem bump_len (cs : List Int) (c : Nat) : (bump cs c).length = cs.length := by unfold bump; rw [List.length_set]
theorem cnt_all (ns : List Int) (k : Nat) : (cntUp ns k).length = 6 ∧ ∀ c, 0 ≤ (cntUp ns k).getD c 0 ∧ (cntUp ns k).getD c 0 ≤ k := by
  unfold cntUp
  suffices ∀ (l : List Int) (cs : List Int) (n : Nat), cs.length = 6 → (∀ c, 0 ≤ cs.getD c 0 ∧ cs.getD c 0 ≤ n) →
      (l.foldl (fun cs x => bump cs x.toNat) cs).length = 6 ∧ ∀ c, 0 ≤ (l.foldl (fun cs x => bump cs x.toNat) cs).getD c 0 ∧ (l.foldl (fun cs x => bump cs x.toNat) cs).getD c 0 ≤ ((n + l.length : Nat) : Int) by
    have h := this (ns.take k) z6 0 rfl (fun c => by
      unfold z6
      rcases c with _ | _ | _ | _ | _ | _ | c <;> simp)
    refine ⟨h.1, fun c => ⟨(h.2 c).1, ?_⟩⟩
    have := (h.2 c).2
    have hl : (ns.take k).length ≤ k := by rw [List.length_take]; omega
    omega
  intro l
  induction l with
  | nil => intro cs n h1 h2; exact ⟨h1, fun c => ⟨(h2 c).1, by have := (h2 c).2; simpa using this⟩⟩
  | cons x r ih =>
    intro cs n h1 h2
    have hb : ∀ c, 0 ≤ (bump cs x.toNat).getD c 0 ∧ (bump cs x.toNat).getD c 0 ≤ ((n + 1 : Nat) : Int) := fun c => by
      unfold bump
      rw [List.getD_eq_getElem?_getD, List.getElem?_set]
      by_cases e : x.toNat = c
      · subst e
        by_cases hl : x.toNat < cs.length
        · simp only [hl, if_true, Option.getD_some]
          have := h2 x.toNat; omega
        · simp only [hl, if_true, if_false, Option.getD_none]; omega
      · rw [if_neg e, ← List.getD_eq_getElem?_getD]
        have := h2 c; omega
    have := ih (bump cs x.toNat) (n + 1) (by rw [bump_len]; exact h1) hb
    refine ⟨this.1, fun c => ⟨(this.2 c).1, ?_⟩⟩
    have h := (this.2 c).2
    simp only [List.foldl_cons, List.length_cons]
    have e : ((n + 1 + r.length : Nat) : Int) = ((n + (r.length + 1) : Nat) : Int) := by omega
    rw [← e]; exact h
def countA (ns : List Int) : List Int := if vR ns = true then cntUp ns 24 else z6
theorem countA_len (ns : List Int) : (countA ns).length = 6 := by
  unfold countA
  by_cases h : vR ns = true
  · rw [if_pos h]; exact (cnt_all ns 24).1
  · rw [if_neg h]; rfl
theorem Has.zero6 (w : World) (T : TypeId) : Has (w.alloc (.cells #[.int .i64 0, .int .i64 0, .int .i64 0, .int .i64 0, .int .i64 0, .int .i64 0] T)) w.heap.size z6 6 := Has.box (ns := z6) w T rfl (by decide)
/-- A layer of a valid rack is a color's number; its count goes up. -/
theorem count_layer (ns : List Int) (h24 : ns.length = 24) (hv : vR ns = true) (p q : Nat) (hp : p < 6) (hq : q < 4) :
    ∃ c : Nat, c < 6 ∧ (tub ns p).getD q 0 = (c : Int) ∧ cntUp ns (p * 4 + q + 1) = (cntUp ns (p * 4 + q)).set c ((cntUp ns (p * 4 + q)).getD c 0 + 1) := by
  have h4 := tub_len ns p h24 hp
  have hk := (known_iff h4).1 (by have := vR_tub hv p hp; unfold vT at this; exact (Bool.and_eq_true_iff.1 this).1) q hq
  refine ⟨((tub ns p).getD q 0).toNat, by omega, by omega, ?_⟩
  rw [cntUp_step ns (p * 4 + q) (by omega), tub_getD ns p q hq]; rfl

end Go.Proofs.Ytnldnjnnjfbhnab.base
end

section
namespace Go.Proofs.Ytnldnjnnjfbhnab.base
set_option linter.unusedVariables false
set_option linter.unusedSimpArgs false

/-- How many runs a tube of a rack has. -/
def nR (ns : List Int) (p : Nat) : Nat := runsN (tub ns p) (lay (tub ns p))
/-- The runs of the first tubes together. -/
def runUp (ns : List Int) : Nat → Nat
  | 0 => 0
  | p + 1 => runUp ns p + nR ns p
theorem nR_le {ns : List Int} (h24 : ns.length = 24) (hv : vR ns = true) (p : Nat) (hp : p < 6) : nR ns p ≤ 4 := by
  have h4 := tub_len ns p h24 hp
  have hvt := vR_tub hv p hp
  have hL := (tubeFacts h4 hvt).lay4
  have := (runFacts h4 hvt (lay (tub ns p)) hL).small
  unfold nR; omega
theorem runUp_le {ns : List Int} (h24 : ns.length = 24) (hv : vR ns = true) : ∀ p, p ≤ 6 → runUp ns p ≤ p * 4
  | 0, _ => by rw [runUp]; omega
  | p + 1, h => by
    have h1 := runUp_le h24 hv p (by omega)
    have h2 := nR_le h24 hv p (by omega)
    rw [runUp]; omega
/-- The lowest layers of the tubes. -/
def bots (ns : List Int) : List Int := (List.range 6).map fun i => (tub ns i).getD 0 0
theorem bots_len (ns : List Int) : (bots ns).length = 6 := by unfold bots; rw [List.length_map, List.length_range]
theorem bots_get (ns : List Int) (p : Nat) (hp : p < 6) : (bots ns).getD p 0 = (tub ns p).getD 0 0 := by
  unfold bots; rw [List.getD_eq_getElem?_getD, List.getElem?_map, List.getElem?_range hp]; rfl
def botUp (ns : List Int) (p : Nat) : List Int := cntUp (bots ns) p
theorem bot_step (ns : List Int) (h24 : ns.length = 24) (hv : vR ns = true) (p : Nat) (hp : p < 6) :
    ∃ c : Nat, c < 6 ∧ (tub ns p).getD 0 0 = (c : Int) ∧ botUp ns (p + 1) = (botUp ns p).set c ((botUp ns p).getD c 0 + 1) := by
  have h4 := tub_len ns p h24 hp
  have hk := (known_iff h4).1 (by have := vR_tub hv p hp; unfold vT at this; exact (Bool.and_eq_true_iff.1 this).1) 0 (by omega)
  refine ⟨((tub ns p).getD 0 0).toNat, by omega, by omega, ?_⟩
  unfold botUp
  rw [cntUp_step (bots ns) p (by rw [bots_len]; exact hp), bots_get ns p hp]; rfl
theorem bot_all (ns : List Int) (p : Nat) : (botUp ns p).length = 6 ∧ ∀ c, 0 ≤ (botUp ns p).getD c 0 ∧ (botUp ns p).getD c 0 ≤ p := cnt_all (bots ns) p
theorem bot0 (ns : List Int) : botUp ns 0 = z6 := by unfold botUp cntUp; rw [List.take_zero]; rfl

def runsA (ns : List Int) : Int := if vR ns = true then (runUp ns 6 : Nat) else 0
def botA (ns : List Int) : List Int := if vR ns = true then botUp ns 6 else z6
theorem botA_len (ns : List Int) : (botA ns).length = 6 := by
  unfold botA
  by_cases h : vR ns = true
  · rw [if_pos h]; exact (bot_all ns 6).1
  · rw [if_neg h]; rfl
/-- The number of boundaries. -/
def edgeN (ns : List Int) : Int := (runUp ns 6 : Nat) - 6 + (botUp ns 6).getD 0 0
def edgeA (ns : List Int) : Int := if vR ns = true then edgeN ns else 0
/-- The bound, colors up to one. -/
def bndUp (ns : List Int) : Nat → Int
  | 0 => edgeN ns
  | c + 1 => bndUp ns c + max ((botUp ns 6).getD (c + 1) 0 - 1) 0
def bndN (ns : List Int) : Int := bndUp ns 5
def bndA (ns : List Int) : Int := if vR ns = true then bndN ns else 0
theorem edge_in {ns : List Int} (h24 : ns.length = 24) (hv : vR ns = true) : -6 ≤ edgeN ns ∧ edgeN ns ≤ 24 := by
  have h1 := runUp_le h24 hv 6 (Nat.le_refl _)
  have h2 := (bot_all ns 6).2 0
  unfold edgeN; omega
theorem bnd_in {ns : List Int} (h24 : ns.length = 24) (hv : vR ns = true) : ∀ c, -6 ≤ bndUp ns c ∧ bndUp ns c ≤ 24 + c * 5
  | 0 => by have := edge_in h24 hv; rw [bndUp]; omega
  | c + 1 => by
    have h1 := bnd_in h24 hv c
    have h2 := (bot_all ns 6).2 (c + 1)
    rw [bndUp]; omega
/-- The runs less the colors up to one. -/
def spareUp (ns : List Int) : Nat → Int
  | 0 => (runUp ns 6 : Nat)
  | c + 1 => spareUp ns c - min ((cntUp ns 24).getD (c + 1) 0) 1
def spareA (ns : List Int) : Int := if vR ns = true then spareUp ns 5 else 0
theorem spare_in {ns : List Int} (h24 : ns.length = 24) (hv : vR ns = true) : ∀ c : Nat, -(c : Int) ≤ spareUp ns c ∧ spareUp ns c ≤ 24
  | 0 => by have := runUp_le h24 hv 6 (Nat.le_refl _); rw [spareUp]; omega
  | c + 1 => by
    have h1 := spare_in h24 hv c
    have h2 := (cnt_all ns 24).2 (c + 1)
    rw [spareUp]; omega
/-- Each color has at most four layers. -/
def fitsUp (ns : List Int) (c : Nat) : Bool := (List.range c).all fun j => decide ((cntUp ns 24).getD (j + 1) 0 ≤ 4)
def fitsA (ns : List Int) : Bool := vR ns && fitsUp ns 5
theorem fits_step (ns : List Int) (c : Nat) : fitsUp ns (c + 1) = (fitsUp ns c && decide ((cntUp ns 24).getD (c + 1) 0 ≤ 4)) := by
  unfold fitsUp; rw [List.range_succ, List.all_append]; simp
theorem fits_no {ns : List Int} {c : Nat} (h : fitsUp ns c = false) : ∀ d, c ≤ d → fitsUp ns d = false
  | 0, hd => by
    obtain rfl : c = 0 := by omega
    exact h
  | d + 1, hd => by
    by_cases e : c = d + 1
    · subst e; exact h
    · rw [fits_step, fits_no h d (by omega)]; rfl
end Go.Proofs.Ytnldnjnnjfbhnab.base
end

section
namespace Go.Proofs.Ytnldnjnnjfbhnab.base
open Go.ChangeShapes Go.WideShapes Go.ChangeAt Go.RowKit
set_option linter.unusedVariables false
set_option linter.unusedSimpArgs false

theorem prs_shape {w : World} {b : Nat} {v : Value} {n : Nat} {fs : List Int} (h : Prs w b v n fs) : ∃ a cap, v = .slice a n cap := by
  rcases h.2 with ⟨h0, h1⟩ | ⟨g, cap, cur, h0, _⟩
  · exact ⟨_, _, by rw [h1]; exact h0⟩
  · exact ⟨_, _, h0⟩
theorem idx6 (T : TypeId) (hT : Try.prog.underlying T = some (.array 6 3)) (ns : List Int) (hn : ns.length = 6) (k : Nat) (hk : k < 6) (w : World) : (Instr.index T (.agg (ints ns).toArray) (.int .i64 (k : Nat))).run Try.prog w = .ok (.int .i64 (ns.getD k 0)) w :=
  run_index_int T 3 6 hT Try.underlying3 (fun w => by rw [Try.sizeOf3]) ns hn k hk w
theorem build6 (w : World) : (Instr.build 112 #[]).run Try.prog w = .ok (.agg (ints z6).toArray) w := by kernel_rfl

theorem l1Most_any (a b : Int) (w : World) :
    Calls Try.prog 60 #[.int .i64 a, .int .i64 b] w fun e w' => e = .returned (.int .i64 (max a b)) ∧ w = w' := by
  by_cases h : b < a
  · have e : max a b = a := by omega
    rw [e]
    clear e
    go_enter Try.func60, Try.ntmps60
    go_wp2_with fail
    go_ret
    exact ⟨rfl, rfl⟩
  · have e : max a b = b := by omega
    have q : decide (b < a) = false := by simpa using h
    rw [e]
    clear e h
    go_enter Try.func60, Try.ntmps60
    go_wp2_with fail
    go_ret
    exact ⟨rfl, rfl⟩

set_option maxHeartbeats 400000 in
theorem l6Runs_any (ns : List Int) (w : World) (h24 : ns.length = 24) (hv : vR ns = true) :
    Calls Try.prog 92 #[row ns] w fun e w' => e = .returned (.int .i64 (runUp ns 6 : Nat)) ∧ Kept w w' := by
  have HB := Lib.hid ((kept_refl w).alloc (.cells (ints ns).toArray 27))
  have H := Has.box w 27 h24 (by omega)
  have HU := Lib.hid (runUp_le h24 hv)
  have HN := Lib.hid (fun p hp => nR_le h24 hv p hp)
  rw [row_ints]
  go_enter Try.func92, Try.ntmps92
  go_wp2_with fail
  have H24 := Lib.hid h24
  have HV := Lib.hid hv
  clear h24 hv
  generalize w.alloc (.cells (ints ns).toArray 27) = W at *
  go_loopw [3, 4] (fun m i wr => ∃ p : Nat, p ≤ 6 ∧ i = .int .i64 p ∧ m = .int .i64 (runUp ns p : Nat) ∧ Has wr w.heap.size ns 24 ∧ Hid (Kept w wr)) (fun _ z _ => 6 - (intOf z).toNat)
  case atStart => exact ⟨0, by omega, rfl, rfl, H, HB⟩
  case round =>
    obtain ⟨p, hp, rfl, rfl, G1, GB⟩ := hrel
    by_cases hp6 : p < 6
    · have hpi : (p : Int) < 6 := by omega
      have h4 := tub_len ns p H24.out hp6
      have hvt := vR_tub HV.out p hp6
      have hu := HU.out p (by omega)
      have hn := HN.out p hp6
      have E : Hid (runUp ns (p + 1) = runUp ns p + nR ns p) := Lib.hid rfl
      have EN : Hid (nR ns p = runsN (tub ns p) (lay (tub ns p))) := Lib.hid rfl
      go_wp2_with (refine load_tub rfl 24 _ rfl _ (p) _ rfl ?_ ?_ ?_ ?_ _ Try.underlying24 rfl ?_ ?_; (· (first | rfl | omega)); rotate_left; (· (repeat (first | (with_reducible assumption) | ((with_reducible refine Has.box _ _ ?_ ?_) <;> (first | assumption | decide)) | (with_reducible refine Has.alloc ?_ _) | ((with_reducible refine Has.putOther ?_ _ _ ?_); rotate_left; omega; skip) | ((with_reducible refine Has.below ?_ ?_); rotate_left; assumption)))); (· omega); (· kernel_rfl))
      refine (l2Runs_any (tub ns p) _ h4 hvt).mono ?_
      rintro e w1 ⟨vr, rfl, q1, b1⟩
      rw [← EN.out] at q1
      obtain ⟨a, cap, rfl⟩ := prs_shape q1
      have G2 := G1.below b1
      have GB2 := Lib.hid (GB.out.call b1)
      clear G1 GB b1 q1
      generalize nR ns p = x at *
      generalize runUp ns p = y at *
      go_wp2_with fail
      go_roundw
      case rel => exact ⟨p + 1, by omega, by go_num, by rw [E.out]; go_num, G2, GB2⟩
      case measure => simp [intOf]; omega
    · obtain rfl : p = 6 := by omega
      go_wp2_with fail
      go_ret
      exact ⟨rfl, GB.out⟩

set_option maxHeartbeats 1600000 in
theorem l6Bottoms_any (ns : List Int) (w : World) (h24 : ns.length = 24) (hv : vR ns = true) :
    Calls Try.prog 91 #[row ns] w fun e w' => e = .returned (.agg (ints (botUp ns 6)).toArray) ∧ Kept w w' := by
  have HB := Lib.hid ((((kept_refl w).alloc (.cells (ints ns).toArray 27)).alloc (.cells #[.int .i64 0, .int .i64 0, .int .i64 0, .int .i64 0, .int .i64 0, .int .i64 0] 112)).alloc (.cells #[.int .i64 0, .int .i64 0, .int .i64 0, .int .i64 0, .int .i64 0, .int .i64 0] 112))
  have H := ((Has.box w 27 h24 (by omega)).alloc (.cells #[.int .i64 0, .int .i64 0, .int .i64 0, .int .i64 0, .int .i64 0, .int .i64 0] 112)).alloc (.cells #[.int .i64 0, .int .i64 0, .int .i64 0, .int .i64 0, .int .i64 0, .int .i64 0] 112)
  have Z := ((Has.zero6 (w.alloc (.cells (ints ns).toArray 27)) 112).at (size1 _ _)).alloc (.cells #[.int .i64 0, .int .i64 0, .int .i64 0, .int .i64 0, .int .i64 0, .int .i64 0] 112)
  have Y := (Has.zero6 ((w.alloc (.cells (ints ns).toArray 27)).alloc (.cells #[.int .i64 0, .int .i64 0, .int .i64 0, .int .i64 0, .int .i64 0, .int .i64 0] 112)) 112).at (c := w.heap.size + 1 + 1) (by simp)
  rw [row_ints]
  go_enter Try.func91, Try.ntmps91
  go_wp2_with fail
  have HV := Lib.hid hv
  have HL := Lib.hid h24
  have B0 := Lib.hid (bot0 ns)
  clear hv h24
  generalize (((w.alloc (.cells (ints ns).toArray 27)).alloc (.cells #[.int .i64 0, .int .i64 0, .int .i64 0, .int .i64 0, .int .i64 0, .int .i64 0] 112)).alloc (.cells #[.int .i64 0, .int .i64 0, .int .i64 0, .int .i64 0, .int .i64 0, .int .i64 0] 112)) = W at *
  go_loopg [4] 6 (fun gk i wr => ∃ p : Nat, gk = 6 - p ∧ p ≤ 6 ∧ i = .int .i64 p ∧ Has wr w.heap.size ns 24 ∧ Has wr (w.heap.size + 1 + 1) (botUp ns p) 6 ∧ Has wr (w.heap.size + 1) z6 6 ∧ Hid (Kept w wr))
  case atStart => exact ⟨0, rfl, by omega, rfl, H, by rw [B0.out]; exact Y, Z, HB⟩
  case round =>
    obtain ⟨p, rfl, hp, rfl, GH, GY, GZ, GB⟩ := hrel
    by_cases hp6 : p < 6
    · have hpi : (p : Int) < 6 := by omega
      have c0 := GH.rackCell p 0 hp6 (by omega)
      rw [Nat.add_zero] at c0
      obtain ⟨c, hc6, hce, hcs⟩ := bot_step ns HL.out HV.out p hp6
      rw [hce] at c0
      have cb := (bot_all ns p).2 c
      have c1 := GY.cell c hc6
      have f1 := GY.free c hc6
      have hc6' : (c : Int) < 6 := by omega
      have S1 := GY.set c ((botUp ns p).getD c 0 + 1) hc6
      rw [← hcs] at S1
      have S2 := Lib.hid S1
      have S3 := Lib.hid (GZ.setOther (b' := w.heap.size + 1 + 1) c (.int .i64 ((botUp ns p).getD c 0 + 1)) (by omega))
      have S5 := Lib.hid (GH.setOther (b' := w.heap.size + 1 + 1) c (.int .i64 ((botUp ns p).getD c 0 + 1)) (by omega))
      have S4 := Lib.hid (GB.out.set (b := w.heap.size + 1 + 1) (by omega) c (.int .i64 ((botUp ns p).getD c 0 + 1)))
      have cb0 := cb.1
      have cb1 : (botUp ns p).getD c 0 ≤ 6 := by omega
      clear cb hce hcs S1 GH GY GZ GB
      generalize (botUp ns p).getD c 0 = v at *
      go_wp2_with fail
      go_roundg (6 - (p + 1))
      case rel => exact ⟨p + 1, rfl, by omega, by go_num, S5.out, S2.out, S3.out, S4⟩
      case measure => omega
    · obtain rfl : p = 6 := by omega
      have hl := (bot_all ns 6).1
      have S1 := Lib.hid (GZ.putAll (botUp ns 6) hl)
      have S2 := Lib.hid (GB.out.puts (b := w.heap.size + 1) (by omega) 0 (ints (botUp ns 6)))
      go_wp2_with (first | (refine load_has rfl 112 _ rfl _ rfl ?_ 6 ?_ _ Try.underlying112 rfl ?_ ?_; rotate_left; (· (repeat (first | (with_reducible assumption) | ((with_reducible refine Has.box _ _ ?_ ?_) <;> (first | assumption | decide)) | (with_reducible refine Has.alloc ?_ _) | ((with_reducible refine Has.putOther ?_ _ _ ?_); rotate_left; omega; skip) | ((with_reducible refine Has.below ?_ ?_); rotate_left; assumption)))); (· kernel_rfl)) | (refine store_at rfl 112 _ _ rfl _ _ rfl rfl ?_ 6 ?_ ?_ ?_ ?_; rotate_left; (· (repeat (first | (with_reducible assumption) | ((with_reducible refine Has.box _ _ ?_ ?_) <;> (first | assumption | decide)) | (with_reducible refine Has.alloc ?_ _) | ((with_reducible refine Has.putOther ?_ _ _ ?_); rotate_left; omega; skip) | ((with_reducible refine Has.below ?_ ?_); rotate_left; assumption)))); (· (first | assumption | rfl)); (· kernel_rfl)))
      exact bodyPost_ret (res_has rfl _ _ (w.heap.size + 1) (botUp ns 6) 6 _ rfl S1.out Try.underlying112 rfl (by kernel_rfl)) rfl ⟨rfl, S2.out⟩

set_option maxHeartbeats 1600000 in
set_option maxRecDepth 100000 in
theorem l6Boundaries_any (ns : List Int) (w : World) (h24 : ns.length = 24) (hv : vR ns = true) :
    Calls Try.prog 90 #[row ns] w fun e w' => e = .returned (.int .i64 (edgeN ns)) ∧ Kept w w' := by
  have HB := Lib.hid ((kept_refl w).alloc (.cells (ints ns).toArray 27))
  have H := Has.box w 27 h24 (by omega)
  have hu := runUp_le h24 hv 6 (Nat.le_refl _)
  have hb := (bot_all ns 6).2 0
  have hl := (bot_all ns 6).1
  obtain ⟨x, hx⟩ : ∃ x, x = (botUp ns 6).getD 0 0 := ⟨_, rfl⟩
  have IX : Hid (∀ w, (Instr.index 112 (.agg (ints (botUp ns 6)).toArray) (.int .i64 0)).run Try.prog w = .ok (.int .i64 ((botUp ns 6).getD 0 0)) w) := Lib.hid (fun w => idx6 112 Try.underlying112 (botUp ns 6) hl 0 (by omega) w)
  have E : Hid (edgeN ns = (runUp ns 6 : Nat) - 6 + (botUp ns 6).getD 0 0) := Lib.hid rfl
  rw [← hx] at IX E hb
  clear hx
  have hi1 : (Try.prog.info? 27).map (·.size) = some (ints ns).length := by rw [ints_len, h24]; kernel_rfl
  rw [row_ints]
  go_enter Try.func90, Try.ntmps90
  go_wp2_with fail
  have HV := Lib.hid hv
  have H24 := Lib.hid h24
  clear hv h24
  refine wp_region_held_drew (S := fun w' => Has w' w.heap.size ns 24 ∧ Kept w w') (by kernel_rfl) ?_ (fun hHeld => ?_)
  · exact ⟨H.drew, HB.out.drewN 1⟩
  generalize World.drew _ = WD at *
  (refine wpAnyH_take (i := 0) (v := _) rfl (by kernel_rfl) (by kernel_rfl) (by kernel_rfl) (fun _ _ _ h => h) (yieldsIf_load_mid (by rfl) 27 _ rfl _ _ rfl (ints ns) _ (fun w' hSw => hSw.1.holds.range) Try.underlying27 rfl (hi1)) hHeld ?_; (try simp only [List.getElem_toArray, List.getElem_cons_zero, List.getElem_cons_succ, Act.put, List.setIfInBounds_toArray, List.set_cons_zero, List.set_cons_succ]))
  (refine wpAnyH_take (i := 3) (v := _) rfl (by kernel_rfl) (by kernel_rfl) (by kernel_rfl) (fun _ _ _ h => h) (yieldsIf_load_mid (by rfl) 27 _ rfl _ _ rfl (ints ns) _ (fun w' hSw => hSw.1.holds.range) Try.underlying27 rfl (hi1)) hHeld ?_; (try simp only [List.getElem_toArray, List.getElem_cons_zero, List.getElem_cons_succ, Act.put, List.setIfInBounds_toArray, List.set_cons_zero, List.set_cons_succ]))
  (refine wpAnyH_ready (rs := [1]) (by kernel_rfl) (by simp) ?_; refine AllReadyH.cons (o := _) rfl (fun K hK => ?_) AllReadyH.nil; (simp only [List.getElem_toArray, List.getElem_cons_zero, List.getElem_cons_succ, Region.wanted, if_true]))
  go_simp
  refine (l6Runs_any ns _ H24.out HV.out).mono ?_
  rintro e wA ⟨rfl, bq⟩
  dsimp only
  (try simp only [List.getElem_toArray, List.getElem_cons_zero, List.getElem_cons_succ, Act.put, List.setIfInBounds_toArray, List.set_cons_zero, List.set_cons_succ])
  refine hK.out _ _ ⟨hHeld.1.below bq, hHeld.2.call bq⟩ (fun hHeld => ?_)
  clear hK K bq
  generalize runUp ns 6 = y at *
  have W1 : IntKind.i64.wrap ((y : Int) - 6) = (y : Int) - 6 := IntWalk.i64_in _ (by omega)
  have W2 : IntKind.i64.wrap ((y : Int) - 6 + x) = (y : Int) - 6 + x := IntWalk.i64_in _ (by omega)
  (refine wpAnyH_take (i := 2) (v := ?_) rfl (by kernel_rfl) (by kernel_rfl) (by kernel_rfl) (fun _ _ _ h => h) (Or.inl ⟨by rfl, ?_⟩) hHeld ?_; rotate_left; (· (intro w' hSw; go_simp; try with_reducible rfl)); (try simp only [List.getElem_toArray, List.getElem_cons_zero, List.getElem_cons_succ, Act.put, List.setIfInBounds_toArray, List.set_cons_zero, List.set_cons_succ]))
  (refine wpAnyH_ready (rs := [4]) (by kernel_rfl) (by simp) ?_; refine AllReadyH.cons (o := _) rfl (fun K hK => ?_) AllReadyH.nil; (simp only [List.getElem_toArray, List.getElem_cons_zero, List.getElem_cons_succ, Region.wanted, if_true]))
  go_simp
  refine (l6Bottoms_any ns _ H24.out HV.out).mono ?_
  rintro e wB ⟨rfl, bq⟩
  dsimp only
  (try simp only [List.getElem_toArray, List.getElem_cons_zero, List.getElem_cons_succ, Act.put, List.setIfInBounds_toArray, List.set_cons_zero, List.set_cons_succ])
  refine hK.out _ _ ⟨hHeld.1.below bq, hHeld.2.call bq⟩ (fun hHeld => ?_)
  clear hK K bq
  (refine wpAnyH_take (i := 5) (v := .int .i64 x) rfl (by kernel_rfl) (by kernel_rfl) (by kernel_rfl) (fun _ _ _ h => h) (Or.inl ⟨by rfl, ?_⟩) hHeld ?_; (· (intro w' hSw; have q := IX.out w'; clear hSw; go_simp; try with_reducible rfl)); (try simp only [List.getElem_toArray, List.getElem_cons_zero, List.getElem_cons_succ, Act.put, List.setIfInBounds_toArray, List.set_cons_zero, List.set_cons_succ]))
  (refine wpAnyH_take (i := 6) (v := ?_) rfl (by kernel_rfl) (by kernel_rfl) (by kernel_rfl) (fun _ _ _ h => h) (Or.inl ⟨by rfl, ?_⟩) hHeld ?_; rotate_left; (· (intro w' hSw; go_simp; try with_reducible rfl)); (try simp only [List.getElem_toArray, List.getElem_cons_zero, List.getElem_cons_succ, Act.put, List.setIfInBounds_toArray, List.set_cons_zero, List.set_cons_succ])); (refine wpAnyH_take (i := 7) (v := ?_) rfl (by kernel_rfl) (by kernel_rfl) (by kernel_rfl) (fun _ _ _ h => h) (Or.inl ⟨by rfl, ?_⟩) hHeld ?_; rotate_left; (· (intro w' hSw; go_simp; try with_reducible rfl)); (try simp only [List.getElem_toArray, List.getElem_cons_zero, List.getElem_cons_succ, Act.put, List.setIfInBounds_toArray, List.set_cons_zero, List.set_cons_succ]))
  refine wpAnyH_done (by kernel_rfl) ?_ _
  have GB2 := Lib.hid hHeld.2
  clear hHeld
  go_wp2_with fail
  go_ret
  exact ⟨ret_int (by rw [E.out]), GB2.out⟩

set_option maxHeartbeats 1600000 in
set_option maxRecDepth 100000 in
theorem l6Bound_any (ns : List Int) (w : World) (h24 : ns.length = 24) (hv : vR ns = true) :
    Calls Try.prog 88 #[row ns] w fun e w' => e = .returned (.int .i64 (bndN ns)) ∧ Kept w w' := by
  have HB := Lib.hid ((kept_refl w).alloc (.cells (ints ns).toArray 27))
  have H := Has.box w 27 h24 (by omega)
  have hl := (bot_all ns 6).1
  have HC := Lib.hid (bot_all ns 6).2
  have HI := Lib.hid (bnd_in h24 hv)
  have hi1 : (Try.prog.info? 27).map (·.size) = some (ints ns).length := by rw [ints_len, h24]; kernel_rfl
  have hi6 : (Try.prog.info? 112).map (·.size) = some 6 := by kernel_rfl
  have l2 : (ints (botUp ns 6)).length = 6 := by rw [ints_len]; exact hl
  rw [row_ints]
  go_enter Try.func88, Try.ntmps88
  go_wp2_with fail
  have HV := Lib.hid hv
  have H24 := Lib.hid h24
  clear hv h24
  refine wp_region_held_drew (S := fun w' => Has w' w.heap.size ns 24 ∧ Kept w w') (by kernel_rfl) ?_ (fun hHeld => ?_)
  · exact ⟨H.drew, HB.out.drewN 1⟩
  generalize World.drew _ = WD at *
  (refine wpAnyH_take (i := 0) (v := _) rfl (by kernel_rfl) (by kernel_rfl) (by kernel_rfl) (fun _ _ _ h => h) (yieldsIf_load_mid (by rfl) 27 _ rfl _ _ rfl (ints ns) _ (fun w' hSw => hSw.1.holds.range) Try.underlying27 rfl (hi1)) hHeld ?_; (try simp only [List.getElem_toArray, List.getElem_cons_zero, List.getElem_cons_succ, Act.put, List.setIfInBounds_toArray, List.set_cons_zero, List.set_cons_succ]))
  (refine wpAnyH_take (i := 2) (v := _) rfl (by kernel_rfl) (by kernel_rfl) (by kernel_rfl) (fun _ _ _ h => h) (yieldsIf_load_mid (by rfl) 27 _ rfl _ _ rfl (ints ns) _ (fun w' hSw => hSw.1.holds.range) Try.underlying27 rfl (hi1)) hHeld ?_; (try simp only [List.getElem_toArray, List.getElem_cons_zero, List.getElem_cons_succ, Act.put, List.setIfInBounds_toArray, List.set_cons_zero, List.set_cons_succ]))
  refine wpAnyH_ready (rs := [1, 4]) (by kernel_rfl) (by simp) ?_
  refine AllReadyH.cons (o := _) rfl (fun K hK => ?_) (AllReadyH.cons (o := _) rfl (fun K hK => ?_) AllReadyH.nil)
  (simp only [List.getElem_toArray, List.getElem_cons_zero, List.getElem_cons_succ, Region.wanted, if_true])
  go_simp
  refine (l6Boundaries_any ns _ H24.out HV.out).mono ?_
  rintro e wA ⟨rfl, bq⟩
  dsimp only
  (try simp only [List.getElem_toArray, List.getElem_cons_zero, List.getElem_cons_succ, Act.put, List.setIfInBounds_toArray, List.set_cons_zero, List.set_cons_succ])
  refine hK.out _ _ ⟨hHeld.1.below bq, hHeld.2.call bq⟩ (fun hHeld => ?_)
  clear hK K
  clear bq
  refine wpAnyH_ready (rs := [3, 4]) (by kernel_rfl) (by simp) ?_
  refine AllReadyH.cons (o := _) rfl (fun K hK => ?_) (AllReadyH.cons (o := _) rfl (fun K hK => ?_) AllReadyH.nil)
  (simp only [List.getElem_toArray, List.getElem_cons_zero, List.getElem_cons_succ, Region.wanted, if_true])
  go_simp
  refine (l6Bottoms_any ns _ H24.out HV.out).mono ?_
  rintro e wB ⟨rfl, bq⟩
  dsimp only
  (try simp only [List.getElem_toArray, List.getElem_cons_zero, List.getElem_cons_succ, Act.put, List.setIfInBounds_toArray, List.set_cons_zero, List.set_cons_succ])
  refine hK.out _ _ ⟨hHeld.1.below bq, hHeld.2.call bq⟩ (fun hHeld => ?_)
  clear hK K
  clear bq
  (refine wpAnyH_ready (rs := [4]) (by kernel_rfl) (by simp) ?_; refine AllReadyH.cons (o := _) rfl (fun K hK => ?_) AllReadyH.nil; (simp only [List.getElem_toArray, List.getElem_cons_zero, List.getElem_cons_succ, Region.wanted, if_true]))
  go_simp
  have lZ := hHeld.1.lt
  have lB := hHeld.2.size
  have ZZ := Has.zero6 wB 112
  refine hK.out _ _ ⟨hHeld.1.alloc _, hHeld.2.alloc _⟩ (fun hHeld => ?_)
  clear hK K
  generalize wB.alloc (.cells #[.int .i64 0, .int .i64 0, .int .i64 0, .int .i64 0, .int .i64 0, .int .i64 0] 112) = WZ at *
  generalize wB.heap.size = bz at *
  rotate_left
  (simp only [List.getElem_toArray, List.getElem_cons_zero, List.getElem_cons_succ, Region.wanted, if_true])
  go_simp
  have lZ := hHeld.1.lt
  have lB := hHeld.2.size
  have ZZ := Has.zero6 wA 112
  refine hK.out _ _ ⟨hHeld.1.alloc _, hHeld.2.alloc _⟩ (fun hHeld => ?_)
  clear hK K
  generalize wA.alloc (.cells #[.int .i64 0, .int .i64 0, .int .i64 0, .int .i64 0, .int .i64 0, .int .i64 0] 112) = WZ at *
  generalize wA.heap.size = bz at *
  (refine wpAnyH_ready (rs := [3]) (by kernel_rfl) (by simp) ?_; refine AllReadyH.cons (o := _) rfl (fun K hK => ?_) AllReadyH.nil; (simp only [List.getElem_toArray, List.getElem_cons_zero, List.getElem_cons_succ, Region.wanted, if_true]))
  go_simp
  refine (l6Bottoms_any ns _ H24.out HV.out).mono ?_
  rintro e wB ⟨rfl, bq⟩
  dsimp only
  (try simp only [List.getElem_toArray, List.getElem_cons_zero, List.getElem_cons_succ, Act.put, List.setIfInBounds_toArray, List.set_cons_zero, List.set_cons_succ])
  refine hK.out _ _ ⟨hHeld.1.below bq, hHeld.2.call bq⟩ (fun hHeld => ?_)
  clear hK K
  replace ZZ := ZZ.below bq
  clear bq
  rotate_left
  (simp only [List.getElem_toArray, List.getElem_cons_zero, List.getElem_cons_succ, Region.wanted, if_true])
  go_simp
  have lZ := hHeld.1.lt
  have lB := hHeld.2.size
  have ZZ := Has.zero6 WD 112
  refine hK.out _ _ ⟨hHeld.1.alloc _, hHeld.2.alloc _⟩ (fun hHeld => ?_)
  clear hK K
  generalize WD.alloc (.cells #[.int .i64 0, .int .i64 0, .int .i64 0, .int .i64 0, .int .i64 0, .int .i64 0] 112) = WZ at *
  generalize WD.heap.size = bz at *
  (refine wpAnyH_ready (rs := [1]) (by kernel_rfl) (by simp) ?_; refine AllReadyH.cons (o := _) rfl (fun K hK => ?_) AllReadyH.nil; (simp only [List.getElem_toArray, List.getElem_cons_zero, List.getElem_cons_succ, Region.wanted, if_true]))
  go_simp
  refine (l6Boundaries_any ns _ H24.out HV.out).mono ?_
  rintro e wA ⟨rfl, bq⟩
  dsimp only
  (try simp only [List.getElem_toArray, List.getElem_cons_zero, List.getElem_cons_succ, Act.put, List.setIfInBounds_toArray, List.set_cons_zero, List.set_cons_succ])
  refine hK.out _ _ ⟨hHeld.1.below bq, hHeld.2.call bq⟩ (fun hHeld => ?_)
  clear hK K
  replace ZZ := ZZ.below bq
  clear bq
  (refine wpAnyH_ready (rs := [3]) (by kernel_rfl) (by simp) ?_; refine AllReadyH.cons (o := _) rfl (fun K hK => ?_) AllReadyH.nil; (simp only [List.getElem_toArray, List.getElem_cons_zero, List.getElem_cons_succ, Region.wanted, if_true]))
  go_simp
  refine (l6Bottoms_any ns _ H24.out HV.out).mono ?_
  rintro e wB ⟨rfl, bq⟩
  dsimp only
  (try simp only [List.getElem_toArray, List.getElem_cons_zero, List.getElem_cons_succ, Act.put, List.setIfInBounds_toArray, List.set_cons_zero, List.set_cons_succ])
  refine hK.out _ _ ⟨hHeld.1.below bq, hHeld.2.call bq⟩ (fun hHeld => ?_)
  clear hK K
  replace ZZ := ZZ.below bq
  clear bq
  rotate_left
  all_goals
    clear H HB
    (refine wpAnyH_take (i := 5) (v := ?_) rfl (by kernel_rfl) (by kernel_rfl) (by kernel_rfl) (fun _ _ _ h => h) (Or.inl ⟨by rfl, ?_⟩) hHeld ?_; rotate_left; (· (intro w' hSw; go_simp; try with_reducible rfl)); (try simp only [List.getElem_toArray, List.getElem_cons_zero, List.getElem_cons_succ, Act.put, List.setIfInBounds_toArray, List.set_cons_zero, List.set_cons_succ]))
    (refine wpAnyH_ready (rs := [6]) (by kernel_rfl) (by simp) ?_; refine AllReadyH.cons (o := _) rfl (fun K hK => ?_) AllReadyH.nil; (simp only [List.getElem_toArray, List.getElem_cons_zero, List.getElem_cons_succ, Region.wanted, if_true]))
    refine wp_store_mid _ _ _ rfl _ _ (ints (botUp ns 6)).toArray rfl rfl (by simpa [l2] using ZZ.there) (by simpa [l2] using hi6) (all_oneCell_toArray (ints_one _)) ?_
    (try simp only [List.getElem_toArray, List.getElem_cons_zero, List.getElem_cons_succ, Act.put, List.setIfInBounds_toArray, List.set_cons_zero, List.set_cons_succ, List.toList_toArray])
    have G1 := hHeld.1.putOther (b' := bz) 0 (ints (botUp ns 6)) (by omega)
    have GB := hHeld.2.puts (b := bz) (by omega) 0 (ints (botUp ns 6))
    have GZ := ZZ.putAll (botUp ns 6) hl
    refine hK.out _ _ ⟨G1, GB⟩ (fun hHeld => ?_)
    clear hK K
    refine wpAnyH_done (by kernel_rfl) ?_ _
    have GB2 := Lib.hid GB
    clear hHeld GB G1 ZZ
    generalize World.setCells _ bz 0 (ints (botUp ns 6)) = WS at *
    go_wp2_with fail
    go_loop [3, 5] (fun m i => ∃ c : Nat, c ≤ 5 ∧ i = .int .i64 ((c + 1 : Nat) : Int) ∧ m = .int .i64 (bndUp ns c)) (fun _ z => 6 - (intOf z).toNat)
    case atStart => exact ⟨0, by omega, rfl, rfl⟩
    case round =>
      obtain ⟨c, hc, rfl, rfl⟩ := hrel
      by_cases hc5 : c < 5
      · have hci : ((c + 1 : Nat) : Int) ≤ 5 := by omega
        have hc0 := GZ.cell (c + 1) (by omega)
        have hcc := HC.out (c + 1)
        have hbb := HI.out c
        have EB : Hid (bndUp ns (c + 1) = bndUp ns c + max ((botUp ns 6).getD (c + 1) 0 - 1) 0) := Lib.hid rfl
        generalize (botUp ns 6).getD (c + 1) 0 = x at *
        generalize bndUp ns c = y at *
        go_wp2_with fail
        refine (l1Most_any _ _ _).mono ?_
        rintro e w' ⟨rfl, rfl⟩
        have em : max (0 : Int) (x - 1) = max (x - 1) 0 := by omega
        rw [em]
        have hm : 0 ≤ max (x - 1) 0 ∧ max (x - 1) 0 ≤ 5 := by omega
        generalize max (x - 1) 0 = z at *
        clear em
        go_wp2_with fail
        go_round
        case rel => exact ⟨c + 1, by omega, by go_num, by rw [EB.out]⟩
        case measure => simp [intOf]; omega
      · obtain rfl : c = 5 := by omega
        go_wp2_with fail
        go_ret
        exact ⟨rfl, GB2.out⟩

end Go.Proofs.Ytnldnjnnjfbhnab.base
end

section
namespace Go.Proofs.Ytnldnjnnjfbhnab.base
open Go.ChangeShapes Go.WideShapes Go.ChangeAt Go.RowKit
set_option linter.unusedVariables false
set_option linter.unusedSimpArgs false

end Go.Proofs.Ytnldnjnnjfbhnab.base
end
