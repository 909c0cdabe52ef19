/-
  The draws of the law of bounds, walked: a pour, a rack that is often sorted.
-/
import Derived.Test.YtmhkjakgdfadbaaDrawP
import Derived.Test.YtmhkjakgdfadbaaTubeW3
namespace Go.Proofs.Ytmhkjakgdfadbaa.base
open Go.ChangeShapes Go.WideShapes Go.ChangeAt Go.RowKit
open Go.Proofs.Ytmhkjakgdfadbaa.cur
set_option linter.unusedVariables false
set_option linter.unusedSimpArgs false

def DrawnOne (w : World) (e : Ending) (w' : World) : Prop := ∃ ns : List Int, e = .returned (.agg (ints ns).toArray) ∧ ns.length = 24 ∧ Below w.heap.size w w'
set_option maxHeartbeats 800000 in
theorem drawChange (a : Option Addr) (len cap : Nat) (w : World) (h : Code w a len) :
    Calls Try.prog 5 #[.slice a len cap] w (DrawnPost w) := by
  have R0 := Has.zero24 w 27
  have M0 := Lib.hid ((kept_refl w).alloc (.cells #[.int .i64 0, .int .i64 0, .int .i64 0, .int .i64 0, .int .i64 0, .int .i64 0, .int .i64 0, .int .i64 0, .int .i64 0, .int .i64 0, .int .i64 0, .int .i64 0, .int .i64 0, .int .i64 0, .int .i64 0, .int .i64 0, .int .i64 0, .int .i64 0, .int .i64 0, .int .i64 0, .int .i64 0, .int .i64 0, .int .i64 0, .int .i64 0] 27))
  have HC := Lib.hid (fun W (h : Code W a len) => drawCanPour a len cap W h)
  have B0 : Below w.heap.size w (w.alloc (.cells #[.int .i64 0, .int .i64 0, .int .i64 0, .int .i64 0, .int .i64 0, .int .i64 0, .int .i64 0, .int .i64 0, .int .i64 0, .int .i64 0, .int .i64 0, .int .i64 0, .int .i64 0, .int .i64 0, .int .i64 0, .int .i64 0, .int .i64 0, .int .i64 0, .int .i64 0, .int .i64 0, .int .i64 0, .int .i64 0, .int .i64 0, .int .i64 0] 27)) := (Below.refl _ _).alloc (Nat.le_refl _) _
  have H1 := Lib.hid (h.below B0)
  clear h B0
  go_enter Try.func5, Try.ntmps5
  go_wp2_with fail
  refine (HC.out _ H1.out).mono ?_
  rintro e w1 ⟨ns, x, y, rfl, hl, b1⟩
  have R1 := R0.below b1
  have S1 := Lib.hid (R1.putAll ns hl)
  have S2 := Lib.hid ((M0.out.call b1).puts (b := w.heap.size) (Nat.le_refl _) 0 (ints ns))
  clear R0 M0 b1
  go_wp2_with (refine store_at rfl 27 _ _ rfl _ _ rfl rfl ?_ 24 ?_ ?_ ?_ ?_; rotate_left; (· (repeat (first | (with_reducible assumption) | ((with_reducible refine Has.box _ _ ?_ ?_) <;> (first | assumption | decide)) | (with_reducible refine Has.alloc ?_ _) | ((with_reducible refine Has.putOther ?_ _ _ ?_); rotate_left; omega; skip) | ((with_reducible refine Has.below ?_ ?_); rotate_left; assumption)))); (· (first | assumption | rfl)); (· kernel_rfl))
  exact bodyPost_ret (res_has2 rfl _ _ w.heap.size ns 24 _ (.int .i64 x) (.int .i64 y) rfl rfl rfl S1.out Try.underlying27 rfl (by kernel_rfl)) rfl ⟨ns, x, y, rfl, hl, S2.out⟩

set_option maxHeartbeats 1600000 in
set_option maxRecDepth 100000 in
theorem drawIsSorted (a : Option Addr) (len cap : Nat) (w : World) (h : Code w a len) :
    Calls Try.prog 43 #[.slice a len cap] w (DrawnOne w) := by
  have B0 : Below w.heap.size w (w.alloc (.cells #[.int .i64 0, .int .i64 0, .int .i64 0, .int .i64 0, .int .i64 0, .int .i64 0, .int .i64 0, .int .i64 0, .int .i64 0, .int .i64 0, .int .i64 0, .int .i64 0, .int .i64 0, .int .i64 0, .int .i64 0, .int .i64 0, .int .i64 0, .int .i64 0, .int .i64 0, .int .i64 0, .int .i64 0, .int .i64 0, .int .i64 0, .int .i64 0] 27)) := (Below.refl _ _).alloc (Nat.le_refl _) _
  have R0 := (Has.zero24 w 27).alloc (.cells #[.slice a len cap, .int .i64 0, .int .u64 0] 72)
  have C0 := cur_new (cap := cap) (h.below B0)
  rw [size1] at C0
  have HC := Lib.hid C0
  have M0 := Lib.hid (((kept_refl w).alloc (.cells #[.int .i64 0, .int .i64 0, .int .i64 0, .int .i64 0, .int .i64 0, .int .i64 0, .int .i64 0, .int .i64 0, .int .i64 0, .int .i64 0, .int .i64 0, .int .i64 0, .int .i64 0, .int .i64 0, .int .i64 0, .int .i64 0, .int .i64 0, .int .i64 0, .int .i64 0, .int .i64 0, .int .i64 0, .int .i64 0, .int .i64 0, .int .i64 0] 27)).alloc (.cells #[.slice a len cap, .int .i64 0, .int .u64 0] 72))
  clear h B0 C0
  go_enter Try.func43, Try.ntmps43
  go_wp2_with fail
  refine (rack_any (w.heap.size + 1) _ _ HC.out (by omega)).mono ?_
  rintro e w1 ⟨ns, rfl, hl, c1, m1⟩
  have R1 := R0.moved m1 (by omega)
  have K1 := Lib.hid (show Kept w w1 from Moved.below M0.out m1 (by omega) M0.out.size)
  have C1 := Lib.hid (Cur.alloc c1 (.cells (ints ns).toArray 27))
  have hs1 := c1.lt
  clear R0 HC M0 c1 m1
  have G1 := Has.box w1 27 hl (by omega)
  replace R1 := R1.alloc (.cells (ints ns).toArray 27)
  replace K1 := Lib.hid (K1.out.alloc (.cells (ints ns).toArray 27))
  obtain ⟨g, hg⟩ : ∃ g, g = w1.heap.size := ⟨_, rfl⟩
  have hgs : w.heap.size + 1 < g := by rw [hg]; exact hs1
  rw [← hg] at G1
  go_wp2_with (refine store_new rfl 27 _ _ rfl _ _ _ rfl _ rfl _ rfl rfl ?_ ?_ ?_; (· (first | assumption | rfl)); (· kernel_rfl))
  rw [← hg]
  clear hg
  refine (one_any (w.heap.size + 1) _ 2 _ C1.out (by omega) (by omega) (by omega)).mono ?_
  rintro e w2 ⟨t, rfl, _, m2⟩
  have R := R1.moved m2 (by omega)
  have G := G1.moved m2 (by omega)
  have KB := Lib.hid (show Kept w w2 from Moved.below K1.out m2 (by omega) K1.out.size)
  clear R1 G1 K1 C1 m2 hs1
  cases t with
  | false =>
    have S1 := Lib.hid (R.putAll ns G.len)
    have S2 := Lib.hid (KB.out.puts (b := w.heap.size) (Nat.le_refl _) 0 (ints ns))
    have hzl := Lib.hid G.len
    go_wp2_with (first | (refine load_has rfl 27 _ rfl _ rfl ?_ 24 ?_ _ Try.underlying27 rfl ?_ ?_; rotate_left; (· (repeat (first | (with_reducible assumption) | ((with_reducible refine Has.box _ _ ?_ ?_) <;> (first | assumption | decide)) | (with_reducible refine Has.alloc ?_ _) | ((with_reducible refine Has.putOther ?_ _ _ ?_); rotate_left; omega; skip) | ((with_reducible refine Has.below ?_ ?_); rotate_left; assumption)))); (· kernel_rfl)) | (refine store_at rfl 27 _ _ rfl _ _ rfl rfl ?_ 24 ?_ ?_ ?_ ?_; rotate_left; (· (repeat (first | (with_reducible assumption) | ((with_reducible refine Has.box _ _ ?_ ?_) <;> (first | assumption | decide)) | (with_reducible refine Has.alloc ?_ _) | ((with_reducible refine Has.putOther ?_ _ _ ?_); rotate_left; omega; skip) | ((with_reducible refine Has.below ?_ ?_); rotate_left; assumption)))); (· (first | assumption | rfl)); (· kernel_rfl)))
    exact bodyPost_ret (res_has rfl _ _ w.heap.size ns 24 _ rfl S1.out Try.underlying27 rfl (by kernel_rfl)) rfl ⟨ns, rfl, hzl.out, S2.out⟩
  | true =>
    go_wp2_with (refine load_has rfl 27 _ rfl _ rfl ?_ 24 ?_ _ Try.underlying27 rfl ?_ ?_; rotate_left; (· (repeat (first | (with_reducible assumption) | ((with_reducible refine Has.box _ _ ?_ ?_) <;> (first | assumption | decide)) | (with_reducible refine Has.alloc ?_ _) | ((with_reducible refine Has.putOther ?_ _ _ ?_); rotate_left; omega; skip) | ((with_reducible refine Has.below ?_ ?_); rotate_left; assumption)))); (· kernel_rfl))
    refine (l2Rack_any ns _ hl).mono ?_
    rintro e w3 ⟨rfl, b3⟩
    replace R := R.below b3
    replace G := G.below b3
    replace KB := Lib.hid (KB.out.call b3)
    clear b3 hl
    cases vR ns with
    | false =>
      have S1 := Lib.hid (R.putAll ns G.len)
      have S2 := Lib.hid (KB.out.puts (b := w.heap.size) (Nat.le_refl _) 0 (ints ns))
      have hzl := Lib.hid G.len
      go_wp2_with (first | (refine load_has rfl 27 _ rfl _ rfl ?_ 24 ?_ _ Try.underlying27 rfl ?_ ?_; rotate_left; (· (repeat (first | (with_reducible assumption) | ((with_reducible refine Has.box _ _ ?_ ?_) <;> (first | assumption | decide)) | (with_reducible refine Has.alloc ?_ _) | ((with_reducible refine Has.putOther ?_ _ _ ?_); rotate_left; omega; skip) | ((with_reducible refine Has.below ?_ ?_); rotate_left; assumption)))); (· kernel_rfl)) | (refine store_at rfl 27 _ _ rfl _ _ rfl rfl ?_ 24 ?_ ?_ ?_ ?_; rotate_left; (· (repeat (first | (with_reducible assumption) | ((with_reducible refine Has.box _ _ ?_ ?_) <;> (first | assumption | decide)) | (with_reducible refine Has.alloc ?_ _) | ((with_reducible refine Has.putOther ?_ _ _ ?_); rotate_left; omega; skip) | ((with_reducible refine Has.below ?_ ?_); rotate_left; assumption)))); (· (first | assumption | rfl)); (· kernel_rfl)))
      exact bodyPost_ret (res_has rfl _ _ w.heap.size ns 24 _ rfl S1.out Try.underlying27 rfl (by kernel_rfl)) rfl ⟨ns, rfl, hzl.out, S2.out⟩
    | true =>
      go_wp2_with fail
      go_loopg [5] 6 (fun gk i wr => ∃ (p : Nat) (zs : List Int), gk = 6 - p ∧ p ≤ 6 ∧ i = .int .i64 p ∧ Has wr g zs 24 ∧ Has wr w.heap.size z24 24 ∧ Hid (Kept w wr))
      case atStart => exact ⟨0, ns, rfl, by omega, rfl, G, R, KB⟩
      case round =>
        clear G R KB
        obtain ⟨p, zs, rfl, hp, rfl, G, R, KB⟩ := hrel
        rcases Nat.lt_or_ge p 6 with hp6 | hge
        · have hpi : (p : Int) < 6 := by omega
          have hp0 : (0 : Int) ≤ (p : Int) := by omega
          go_wp2_with fail
          go_loopg [6] 3 (fun gk j wr => ∃ (q : Nat) (zs : List Int), gk = 4 - q ∧ 1 ≤ q ∧ q ≤ 4 ∧ j = .int .i64 q ∧ Has wr g zs 24 ∧ Has wr w.heap.size z24 24 ∧ Hid (Kept w wr))
          case atStart => exact ⟨1, zs, rfl, by omega, by omega, rfl, G, R, KB⟩
          case round =>
            clear G R KB
            obtain ⟨q, zs, rfl, hq1, hq, rfl, G, R, KB⟩ := hrel
            rcases Nat.lt_or_ge q 4 with hq4 | hge
            · have hqi : (q : Int) < 4 := by omega
              have hq0 : (0 : Int) ≤ (q : Int) := by omega
              have c0 := G.cell (p * 4 + q) (by omega)
              have T1 := Lib.hid ((G.set (p * 4 + q) (zs.getD (p * 4) 0) (by omega)).drewN 1)
              have T2 := Lib.hid ((R.setOther (b' := g) (p * 4 + q) (.int .i64 (zs.getD (p * 4) 0)) (by omega)).drewN 1)
              have T3 := Lib.hid (show Kept w ((wr.setCell ⟨g, p * 4 + q, none⟩ (.int .i64 (zs.getD (p * 4) 0))).drewN 1) from (show Kept w (wr.setCell ⟨g, p * 4 + q, none⟩ (.int .i64 (zs.getD (p * 4) 0))) from KB.out.puts (b := g) (by omega) (p * 4 + q) [.int .i64 (zs.getD (p * 4) 0)]).drewN 1)
              have C4 : Hid ((zs.set (p * 4 + q) (zs.getD (p * 4) 0)).getD (p * 4) 0 = zs.getD (p * 4) 0) := Lib.hid (by
                rw [List.getD_eq_getElem?_getD, List.getElem?_set_ne (by omega), ← List.getD_eq_getElem?_getD])
              have cy := (G.drewN 1).cell (p * 4) (by omega)
              have ff := G.free (p * 4 + q) (by omega)
              have cc := G.cell (p * 4 + q) (by omega)
              generalize zs.getD (p * 4 + q) 0 = x at *
              by_cases hx : 0 < x
              · generalize hyy : zs.getD (p * 4) 0 = y at *
                clear hyy
                have CY := Lib.hid cy
                go_wp2_with fail
                refine wp_region_held_drew (S := fun w' => w'.cell? ⟨g, p * 4, none⟩ = some (.int .i64 y)) (by kernel_rfl) CY.out (fun hHeld => ?_)
                (refine wpAnyH_take (i := 0) (v := ?_) rfl (by kernel_rfl) (by kernel_rfl) (by kernel_rfl) (fun _ _ _ h => h) (Or.inl ⟨by rfl, ?_⟩) hHeld ?_; rotate_left; (· (intro w' hSw; go_simp; try with_reducible rfl)); (try simp only [List.getElem_toArray, List.getElem_cons_zero, List.getElem_cons_succ, Act.put, List.setIfInBounds_toArray, List.set_cons_zero, List.set_cons_succ])); (refine wpAnyH_take (i := 1) (v := ?_) rfl (by kernel_rfl) (by kernel_rfl) (by kernel_rfl) (fun _ _ _ h => h) (Or.inl ⟨by rfl, ?_⟩) hHeld ?_; rotate_left; (· (intro w' hSw; go_simp; try with_reducible rfl)); (try simp only [List.getElem_toArray, List.getElem_cons_zero, List.getElem_cons_succ, Act.put, List.setIfInBounds_toArray, List.set_cons_zero, List.set_cons_succ])); (refine wpAnyH_take (i := 2) (v := ?_) rfl (by kernel_rfl) (by kernel_rfl) (by kernel_rfl) (fun _ _ _ h => h) (Or.inl ⟨by rfl, ?_⟩) hHeld ?_; rotate_left; (· (intro w' hSw; go_simp; try with_reducible rfl)); (try simp only [List.getElem_toArray, List.getElem_cons_zero, List.getElem_cons_succ, Act.put, List.setIfInBounds_toArray, List.set_cons_zero, List.set_cons_succ])); (refine wpAnyH_take (i := 3) (v := ?_) rfl (by kernel_rfl) (by kernel_rfl) (by kernel_rfl) (fun _ _ _ h => h) (Or.inl ⟨by rfl, ?_⟩) hHeld ?_; rotate_left; (· (intro w' hSw; go_simp; try with_reducible rfl)); (try simp only [List.getElem_toArray, List.getElem_cons_zero, List.getElem_cons_succ, Act.put, List.setIfInBounds_toArray, List.set_cons_zero, List.set_cons_succ])); (refine wpAnyH_take (i := 4) (v := ?_) rfl (by kernel_rfl) (by kernel_rfl) (by kernel_rfl) (fun _ _ _ h => h) (Or.inl ⟨by rfl, ?_⟩) hHeld ?_; rotate_left; (· (intro w' hSw; go_simp; try with_reducible rfl)); (try simp only [List.getElem_toArray, List.getElem_cons_zero, List.getElem_cons_succ, Act.put, List.setIfInBounds_toArray, List.set_cons_zero, List.set_cons_succ])); (refine wpAnyH_take (i := 5) (v := ?_) rfl (by kernel_rfl) (by kernel_rfl) (by kernel_rfl) (fun _ _ _ h => h) (Or.inl ⟨by rfl, ?_⟩) hHeld ?_; rotate_left; (· (intro w' hSw; go_simp; try with_reducible rfl)); (try simp only [List.getElem_toArray, List.getElem_cons_zero, List.getElem_cons_succ, Act.put, List.setIfInBounds_toArray, List.set_cons_zero, List.set_cons_succ]))
                (refine wpAnyH_take (i := 6) (v := .int .i64 y) rfl (by kernel_rfl) (by kernel_rfl) (by kernel_rfl) (fun _ _ _ h => h) (Or.inl ⟨by rfl, ?_⟩) hHeld ?_; (· (intro w' hSw; have q := hSw; clear hSw; go_simp; try with_reducible rfl)); (try simp only [List.getElem_toArray, List.getElem_cons_zero, List.getElem_cons_succ, Act.put, List.setIfInBounds_toArray, List.set_cons_zero, List.set_cons_succ]))
                (refine wpAnyH_take (i := 7) (v := ?_) rfl (by kernel_rfl) (by kernel_rfl) (by kernel_rfl) (fun _ _ _ h => h) (Or.inl ⟨by rfl, ?_⟩) hHeld ?_; rotate_left; (· (intro w' hSw; go_simp; try with_reducible rfl)); (try simp only [List.getElem_toArray, List.getElem_cons_zero, List.getElem_cons_succ, Act.put, List.setIfInBounds_toArray, List.set_cons_zero, List.set_cons_succ])); (refine wpAnyH_take (i := 8) (v := ?_) rfl (by kernel_rfl) (by kernel_rfl) (by kernel_rfl) (fun _ _ _ h => h) (Or.inl ⟨by rfl, ?_⟩) hHeld ?_; rotate_left; (· (intro w' hSw; go_simp; try with_reducible rfl)); (try simp only [List.getElem_toArray, List.getElem_cons_zero, List.getElem_cons_succ, Act.put, List.setIfInBounds_toArray, List.set_cons_zero, List.set_cons_succ])); (refine wpAnyH_take (i := 9) (v := ?_) rfl (by kernel_rfl) (by kernel_rfl) (by kernel_rfl) (fun _ _ _ h => h) (Or.inl ⟨by rfl, ?_⟩) hHeld ?_; rotate_left; (· (intro w' hSw; go_simp; try with_reducible rfl)); (try simp only [List.getElem_toArray, List.getElem_cons_zero, List.getElem_cons_succ, Act.put, List.setIfInBounds_toArray, List.set_cons_zero, List.set_cons_succ]))
                (refine wpAnyH_ready (rs := [10]) (by kernel_rfl) (by simp) ?_; refine AllReadyH.cons (o := _) rfl (fun K hK => ?_) AllReadyH.nil; (simp only [List.getElem_toArray, List.getElem_cons_zero, List.getElem_cons_succ, Region.wanted, if_true]))
                go_simp
                refine hK.out _ _ (by have := T1.out.cell (p * 4) (by omega); rw [C4.out] at this; exact this) (fun hHeld => ?_)
                clear hK K cc ff cy
                refine wpAnyH_done (by kernel_rfl) ?_ _
                clear hHeld
                go_wp2_with fail
                go_roundg (4 - (q + 1))
                case rel => exact ⟨q + 1, _, rfl, by omega, by omega, by go_num, T1.out, T2.out, T3⟩
                case measure => omega
              · have hx' : decide (0 < x) = false := by simpa using hx
                clear T1 T2 T3 cy ff cc
                go_wp2_with fail
                go_roundg (4 - (q + 1))
                case rel => exact ⟨q + 1, zs, rfl, by omega, by omega, by go_num, G, R, KB⟩
                case measure => omega
            · obtain rfl : q = 4 := by omega
              go_wp2_with fail
              go_roundg (6 - (p + 1))
              case rel => exact ⟨p + 1, zs, rfl, by omega, by go_num, G, R, KB⟩
              case measure => omega
        · obtain rfl : p = 6 := by omega
          have S1 := Lib.hid (R.putAll zs G.len)
          have S2 := Lib.hid (KB.out.puts (b := w.heap.size) (Nat.le_refl _) 0 (ints zs))
          have hzl := Lib.hid G.len
          go_wp2_with (first | (refine load_has rfl 27 _ rfl _ rfl ?_ 24 ?_ _ Try.underlying27 rfl ?_ ?_; rotate_left; (· (repeat (first | (with_reducible assumption) | ((with_reducible refine Has.box _ _ ?_ ?_) <;> (first | assumption | decide)) | (with_reducible refine Has.alloc ?_ _) | ((with_reducible refine Has.putOther ?_ _ _ ?_); rotate_left; omega; skip) | ((with_reducible refine Has.below ?_ ?_); rotate_left; assumption)))); (· kernel_rfl)) | (refine store_at rfl 27 _ _ rfl _ _ rfl rfl ?_ 24 ?_ ?_ ?_ ?_; rotate_left; (· (repeat (first | (with_reducible assumption) | ((with_reducible refine Has.box _ _ ?_ ?_) <;> (first | assumption | decide)) | (with_reducible refine Has.alloc ?_ _) | ((with_reducible refine Has.putOther ?_ _ _ ?_); rotate_left; omega; skip) | ((with_reducible refine Has.below ?_ ?_); rotate_left; assumption)))); (· (first | assumption | rfl)); (· kernel_rfl)))
          exact bodyPost_ret (res_has rfl _ _ w.heap.size zs 24 _ rfl S1.out Try.underlying27 rfl (by kernel_rfl)) rfl ⟨zs, rfl, hzl.out, S2.out⟩
set_option maxHeartbeats 400000 in
theorem drawBoundOf (a : Option Addr) (len cap : Nat) (w : World) (h : Code w a len) :
    Calls Try.prog 24 #[.slice a len cap] w (DrawnOne w) := by
  have R0 := Has.zero24 w 27
  have M0 := Lib.hid ((kept_refl w).alloc (.cells #[.int .i64 0, .int .i64 0, .int .i64 0, .int .i64 0, .int .i64 0, .int .i64 0, .int .i64 0, .int .i64 0, .int .i64 0, .int .i64 0, .int .i64 0, .int .i64 0, .int .i64 0, .int .i64 0, .int .i64 0, .int .i64 0, .int .i64 0, .int .i64 0, .int .i64 0, .int .i64 0, .int .i64 0, .int .i64 0, .int .i64 0, .int .i64 0] 27))
  have HC := Lib.hid (fun W (h : Code W a len) => drawIsSorted a len cap W h)
  have B0 : Below w.heap.size w (w.alloc (.cells #[.int .i64 0, .int .i64 0, .int .i64 0, .int .i64 0, .int .i64 0, .int .i64 0, .int .i64 0, .int .i64 0, .int .i64 0, .int .i64 0, .int .i64 0, .int .i64 0, .int .i64 0, .int .i64 0, .int .i64 0, .int .i64 0, .int .i64 0, .int .i64 0, .int .i64 0, .int .i64 0, .int .i64 0, .int .i64 0, .int .i64 0, .int .i64 0] 27)) := (Below.refl _ _).alloc (Nat.le_refl _) _
  have H1 := Lib.hid (h.below B0)
  clear h B0
  go_enter Try.func24, Try.ntmps24
  go_wp2_with fail
  refine (HC.out _ H1.out).mono ?_
  rintro e w1 ⟨ns, rfl, hl, b1⟩
  have R1 := R0.below b1
  have S1 := Lib.hid (R1.putAll ns hl)
  have S2 := Lib.hid ((M0.out.call b1).puts (b := w.heap.size) (Nat.le_refl _) 0 (ints ns))
  clear R0 M0 b1
  go_wp2_with (refine store_at rfl 27 _ _ rfl _ _ rfl rfl ?_ 24 ?_ ?_ ?_ ?_; rotate_left; (· (repeat (first | (with_reducible assumption) | ((with_reducible refine Has.box _ _ ?_ ?_) <;> (first | assumption | decide)) | (with_reducible refine Has.alloc ?_ _) | ((with_reducible refine Has.putOther ?_ _ _ ?_); rotate_left; omega; skip) | ((with_reducible refine Has.below ?_ ?_); rotate_left; assumption)))); (· (first | assumption | rfl)); (· kernel_rfl))
  exact bodyPost_ret (res_has rfl _ _ w.heap.size ns 24 _ rfl S1.out Try.underlying27 rfl (by kernel_rfl)) rfl ⟨ns, rfl, hl, S2.out⟩

end Go.Proofs.Ytmhkjakgdfadbaa.base
