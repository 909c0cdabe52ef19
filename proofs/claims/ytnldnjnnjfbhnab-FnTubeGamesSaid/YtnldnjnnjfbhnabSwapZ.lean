/-
  Exchanging two tubes, on both sides, walked.
-/
/-
  A rack is drawn, walked: some 24 numbers come back, and nothing but the cursor's own block changes.
-/
import Derived.Test.YtnldnjnnjfbhnabRackToZ
import Derived.Test.YtnldnjnnjfbhnabCurZ
import Derived.Deep.Upon

section
namespace Go.Proofs.Ytnldnjnnjfbhnab.base
open Go.ChangeShapes Go.WideShapes Go.ChangeAt Go.RowKit
set_option linter.unusedVariables false
set_option linter.unusedSimpArgs false

def swapOk (ns : List Int) (i j : Int) : Bool := vR ns && decide (0 ≤ i ∧ i < 6) && decide (0 ≤ j ∧ j < 6)
def swapR (ns : List Int) (i j : Int) : List Int := if swapOk ns i j = true then setTub (setTub ns i.toNat (tub ns j.toNat)) j.toNat (tub ns i.toNat) else z24
theorem swapOk_not {ns : List Int} {i j : Int} (h : ¬ (vR ns = true ∧ (0 ≤ i ∧ i < 6) ∧ (0 ≤ j ∧ j < 6))) : swapOk ns i j = false := by
  cases hb : swapOk ns i j with
  | false => rfl
  | true => unfold swapOk at hb; simp at hb; exact absurd ⟨hb.1.1, hb.1.2, hb.2⟩ h
theorem swapR_yes {ns : List Int} {p q : Nat} (hv : vR ns = true) (hp : p < 6) (hq : q < 6) : swapOk ns p q = true ∧ swapR ns p q = setTub (setTub ns p (tub ns q)) q (tub ns p) := by
  have h : swapOk ns p q = true := by unfold swapOk; rw [hv]; simp; omega
  exact ⟨h, by unfold swapR; rw [if_pos h]; simp⟩
theorem swapR_len {ns : List Int} (h : ns.length = 24) (i j : Int) : (swapR ns i j).length = 24 := by
  unfold swapR
  by_cases hb : swapOk ns i j = true
  · rw [if_pos hb]
    unfold swapOk at hb
    simp at hb
    have a1 := tub_len ns j.toNat h (by omega)
    have a2 := tub_len ns i.toNat h (by omega)
    exact setTub_len _ _ _ (setTub_len ns _ _ h (by omega) a1) (by omega) a2
  · rw [if_neg hb]; rfl

structure HasOnly (w : World) (b : Nat) (ns : List Int) : Prop where
  has : Has w b ns 24
end Go.Proofs.Ytnldnjnnjfbhnab.base
end

section
namespace Go.Proofs.Ytnldnjnnjfbhnab.base
open Go.ChangeShapes Go.WideShapes Go.ChangeAt Go.RowKit
open Go.Proofs.Ytnldnjnnjfbhnab.cur
set_option linter.unusedVariables false
set_option linter.unusedSimpArgs false

theorem Has.moved {w w' : World} {b c : Nat} {ns : List Int} {n : Nat} (h : Has w b ns n) (m : Moved c w w') (hb : b ≠ c) : Has w' b ns n := by
  have e := m.block b h.lt hb
  refine ⟨⟨fun j v hv => (World.cell?_of_block (a := ⟨b, 0 + j, Option.none⟩) e).trans (h.holds.range j v hv), fun j hj => ?_⟩, h.len, h.pos⟩
  have := h.holds.there j hj
  rw [World.cell?_of_block (w' := w') (w := w) (a := ⟨b, 0 + j, Option.none⟩) e, World.frozen?_of_block (w' := w') (w := w) (a := ⟨b, 0 + j, Option.none⟩) e]
  exact this
theorem grown_of_puts (w : World) (c o : Nat) (vs : List Value) : w.grownBy (w.setCells c o vs) (some c) :=
  have h := below_setCells (B := 0) c (Nat.zero_le _) vs o w w (Below.refl _ _)
  ⟨h.os, h.tape, h.output, Nat.le_of_eq (size_setCells c vs o w).symm, fun i hi hn => World.heap_setCells_other w c o vs hi (fun e => hn (by rw [e]))⟩
theorem Cur.puts {w : World} {c k b : Nat} (h : Cur w c k) (o : Nat) (vs : List Value) (hb : c < b) : Cur (w.setCells b o vs) c k :=
  h.grown (grown_of_puts w b o vs) (fun g e => by injection e with e; omega)
theorem Cur.alloc {w : World} {c k : Nat} (h : Cur w c k) (o : Obj) : Cur (w.alloc o) c k := h.below ((Below.refl _ _).alloc (Nat.le_refl _) o)
theorem Cur.drewN {w : World} {c k : Nat} (h : Cur w c k) (n : Nat) : Cur (w.drewN n) c k := h
theorem Moved.puts {c : Nat} {w w' : World} (h : Moved c w w') {b : Nat} (hb : w.heap.size ≤ b) (o : Nat) (vs : List Value) : Moved c w (w'.setCells b o vs) :=
  have g := grown_of_puts w' b o vs
  ⟨g.os.trans h.os, g.tape.trans h.tape, g.output.trans h.output, Nat.le_trans h.size g.size, fun k hk hn => (g.block k (Nat.lt_of_lt_of_le hk h.size) (fun e => by injection e with e; omega)).trans (h.block k hk hn)⟩
theorem Moved.set {c : Nat} {w w' : World} (h : Moved c w w') {b : Nat} (hb : w.heap.size ≤ b) (o : Nat) (v : Value) : Moved c w (w'.setCell ⟨b, o, none⟩ v) := Moved.puts h hb o [v]
theorem Cur.set {w : World} {c k b : Nat} (h : Cur w c k) (o : Nat) (v : Value) (hb : c < b) : Cur (w.setCell ⟨b, o, none⟩ v) c k := Cur.puts h o [v] hb
theorem Moved.alloc {c : Nat} {w w' : World} (h : Moved c w w') (o : Obj) : Moved c w (w'.alloc o) :=
  h.trans (moved_of_below ((Below.refl _ _).alloc (Nat.le_refl _) o))
theorem Moved.drewN {c : Nat} {w w' : World} (h : Moved c w w') (n : Nat) : Moved c w (w'.drewN n) := ⟨h.os, h.tape, h.output, h.size, h.block⟩

/-- What the draw keeps: the rack's block b, the result's block, the cursor. -/
structure Dr (w : World) (c b K : Nat) (wr : World) : Prop where
  rack : ∃ ns, Has wr b ns 24
  res : Has wr w.heap.size z24 24
  cur : Cur wr c K
  moved : Moved c w wr
theorem Dr.mono {w wr : World} {c b K L : Nat} (h : Dr w c b K wr) (hk : K ≤ L) : Dr w c b L wr := ⟨h.rack, h.res, h.cur.mono hk, h.moved⟩
theorem Dr.call {w wr w2 : World} {c b K L : Nat} (h : Dr w c b K wr) (hc : Cur w2 c L) (m : Moved c wr w2) (h1 : c < w.heap.size) (h2 : w.heap.size < b) : Dr w c b L w2 := by
  obtain ⟨ns, hn⟩ := h.rack
  exact ⟨⟨ns, hn.moved m (by omega)⟩, h.res.moved m (by omega), hc, h.moved.trans m⟩
theorem Dr.set {w wr : World} {c b K : Nat} (h : Dr w c b K wr) (o : Nat) (z : Int) (ho : o < 24) (h1 : c < w.heap.size) (h2 : w.heap.size < b) : Dr w c b K (wr.setCell ⟨b, o, none⟩ (.int .i64 z)) := by
  obtain ⟨ns, hn⟩ := h.rack
  exact ⟨⟨_, hn.set o z ho⟩, h.res.setOther o _ (by omega), Cur.set h.cur o _ (by omega), Moved.set h.moved (by omega) o _⟩
theorem Dr.putTub {w wr : World} {c b K : Nat} (h : Dr w c b K wr) (i : Nat) (hi : i < 6) (t : List Int) (ht : t.length = 4) (h1 : c < w.heap.size) (h2 : w.heap.size < b) : Dr w c b K (wr.setCells b (i * 4) (ints t)) := by
  obtain ⟨ns, hn⟩ := h.rack
  exact ⟨⟨_, hn.putTub i hi t ht⟩, h.res.putOther _ _ (by omega), Cur.puts h.cur _ _ (by omega), Moved.puts h.moved (by omega) _ _⟩
theorem Dr.drewN {w wr : World} {c b K : Nat} (h : Dr w c b K wr) (n : Nat) : Dr w c b K (wr.drewN n) := by
  obtain ⟨ns, hn⟩ := h.rack
  exact ⟨⟨ns, hn.drewN n⟩, h.res.drewN n, h.cur, Moved.drewN h.moved n⟩
theorem Dr.drew {w wr : World} {c b K : Nat} (h : Dr w c b K wr) : Dr w c b K wr.drew := h.drewN 1
theorem Dr.alloc {w wr : World} {c b K : Nat} (h : Dr w c b K wr) (o : Obj) : Dr w c b K (wr.alloc o) := by
  obtain ⟨ns, hn⟩ := h.rack
  exact ⟨⟨ns, hn.alloc o⟩, h.res.alloc o, Cur.alloc h.cur o, Moved.alloc h.moved o⟩
theorem Dr.cell {w wr : World} {c b K : Nat} (h : Dr w c b K wr) (o : Nat) (ho : o < 24) : ∃ z : Int, wr.cell? ⟨b, o, none⟩ = some (.int .i64 z) ∧ wr.frozen? ⟨b, o, none⟩ = false := by
  obtain ⟨ns, hn⟩ := h.rack
  exact ⟨_, hn.cell o ho, hn.free o ho⟩

theorem Dr.putOther {w wr : World} {c b K : Nat} (h : Dr w c b K wr) {b' : Nat} (o : Nat) (vs : List Value) (h1 : c < w.heap.size) (h2 : w.heap.size < b) (h3 : b < b') : Dr w c b K (wr.setCells b' o vs) := by
  obtain ⟨ns, hn⟩ := h.rack
  exact ⟨⟨_, hn.putOther o vs (by omega)⟩, h.res.putOther _ _ (by omega), Cur.puts h.cur _ _ (by omega), Moved.puts h.moved (by omega) _ _⟩
theorem Dr.lt {w wr : World} {c b K : Nat} (h : Dr w c b K wr) : b < wr.heap.size := by
  obtain ⟨ns, hn⟩ := h.rack
  exact hn.lt
theorem rowI_new (P : Int → Prop) (w : World) (cs : Array Value) (t : TypeId) (n : Nat) (hn : n = cs.size) (hp : intsP P cs.toList) : RowI P (w.alloc (.cells cs t)) w.heap.size n := by
  subst hn
  intro j hj
  obtain ⟨m, e, hm⟩ := hp cs[j] (by simp)
  have hc : (w.alloc (.cells cs t)).cell? ⟨w.heap.size, j, none⟩ = some cs[j] := by
    unfold World.cell? World.alloc
    simp [hj]
  exact ⟨m, by rw [hc, e], hm⟩
theorem RowI.moved {P : Int → Prop} {w w' : World} {g n c : Nat} (h : RowI P w g n) (m : Moved c w w') (hg : g < w.heap.size) (hc : g ≠ c) : RowI P w' g n := fun j hj => by
  obtain ⟨z, hz, hp⟩ := h j hj
  exact ⟨z, (World.cell?_of_block (w := w) (m.block g hg hc)).trans hz, hp⟩
theorem anyInts (cs : List Value) (h : cs.all (fun | .int .i64 _ => true | _ => false) = true) : intsP (fun _ => True) cs := fun v hv => by
  have := List.all_eq_true.1 h v hv
  cases v with
  | int k z => cases k with
    | i64 => exact ⟨z, rfl, trivial⟩
    | _ => cases this
  | _ => cases this

def isStore (T : TypeId) : Op → Bool
  | .store t _ _ => t == T
  | _ => false
def isLoad (T : TypeId) : Op → Bool
  | .load t _ => t == T
  | _ => false
theorem buildT4 (w : World) : (Instr.build 24 #[(0, .int .i64 0), (1, .int .i64 1), (2, .int .i64 0), (3, .int .i64 0)]).run Try.prog w = .ok (.agg (ints [0, 1, 0, 0]).toArray) w := by kernel_rfl
section
variable {P : Program} {ops : Array Oper} {rest : List Oper} {op : Oper} {a : Act} {w : World} {Q : Exit → Act → World → Prop}
theorem guard_op (f : Op → Bool) (h : f op.op = true) (g : wpList P ops Q (op :: rest) a w) : wpList P ops Q (op :: rest) a w := g
end
theorem Dr.done {w wr : World} {c b K : Nat} {ns : List Int} (h : Dr w c b K wr) (hn : ns.length = 24) (h1 : c < w.heap.size) :
    Has (wr.setCells w.heap.size 0 (ints ns)) w.heap.size ns 24 ∧ Cur (wr.setCells w.heap.size 0 (ints ns)) c K ∧ Moved c w (wr.setCells w.heap.size 0 (ints ns)) :=
  ⟨h.res.putAll ns hn, Cur.puts h.cur _ _ h1, Moved.puts h.moved (Nat.le_refl _) _ _⟩

set_option maxHeartbeats 3200000 in
set_option maxRecDepth 100000 in
theorem rack_any (c k : Nat) (w : World) (h : Cur w c k) (hk : k < 1000000) :
    Calls Try.prog 66 #[.pointer (some ⟨c, 0, none⟩)] w fun e w' => ∃ ns : List Int, e = .returned (.agg (ints ns).toArray) ∧ ns.length = 24 ∧ Cur w' c (k + 10000) ∧ Moved c w w' := by
  have hcw := h.lt
  have H0 := Has.zero24 w 27
  have C0 := Lib.hid (Cur.alloc h (.cells #[.int .i64 0, .int .i64 0, .int .i64 0, .int .i64 0, .int .i64 0, .int .i64 0, .int .i64 0, .int .i64 0, .int .i64 0, .int .i64 0, .int .i64 0, .int .i64 0, .int .i64 0, .int .i64 0, .int .i64 0, .int .i64 0, .int .i64 0, .int .i64 0, .int .i64 0, .int .i64 0, .int .i64 0, .int .i64 0, .int .i64 0, .int .i64 0] 27))
  have M0 := Lib.hid (Moved.alloc (Moved.refl c w) (.cells #[.int .i64 0, .int .i64 0, .int .i64 0, .int .i64 0, .int .i64 0, .int .i64 0, .int .i64 0, .int .i64 0, .int .i64 0, .int .i64 0, .int .i64 0, .int .i64 0, .int .i64 0, .int .i64 0, .int .i64 0, .int .i64 0, .int .i64 0, .int .i64 0, .int .i64 0, .int .i64 0, .int .i64 0, .int .i64 0, .int .i64 0, .int .i64 0] 27))
  have hz : z24.length = 24 := rfl
  clear h
  go_enter Try.func66, Try.ntmps66
  go_wp2_with (first | (refine build_law rfl 27 rfl _ buildRack ?_))
  refine (among_at (fun n => 1 ≤ n ∧ n ≤ 5) _ _ 6 (w.heap.size + 1) _ _ _ (size1 _ _).symm C0.out (by omega) rfl (by omega) (by omega) ?_).mono ?_
  · intro v hv
    simp at hv
    rcases hv with rfl | rfl | rfl | rfl | rfl | rfl
    all_goals exact ⟨_, rfl, by omega, by omega⟩
  rintro e w1 ⟨x, rfl, hx, c1, m1⟩
  have H1 := H0.moved m1 (by omega)
  have C1 := Lib.hid c1
  have M1 := Lib.hid (M0.out.trans m1)
  clear H0 C0 M0 c1 m1
  go_wp2_with fail
  refine (among_at (fun n => 1 ≤ n ∧ n ≤ 6) _ _ 5 _ _ _ _ rfl C1.out (by omega) rfl (by omega) (by omega) ?_).mono ?_
  · intro v hv
    simp at hv
    rcases hv with rfl | rfl | rfl | rfl | rfl
    all_goals exact ⟨_, rfl, by omega, by omega⟩
  rintro e w2 ⟨y, rfl, hy, c2, m2⟩
  have H2 := H1.moved m2 (by omega)
  have hs2 := H2.lt
  have D0 : Dr w c w2.heap.size (k + 100) (w2.alloc (.cells (ints z24).toArray 27)) :=
    ⟨⟨z24, Has.box w2 27 rfl (by decide)⟩, H2.alloc _, Cur.alloc (c2.mono (by omega)) _, Moved.alloc (M1.out.trans m2) _⟩
  obtain ⟨b, hb⟩ : ∃ b, b = w2.heap.size := ⟨_, rfl⟩
  have DD := Lib.hid D0
  rw [← hb] at DD
  have hbw : w.heap.size < b := by rw [hb]; exact hs2
  clear H1 C1 M1 c2 m2 H2 D0 hs2
  go_wp2_with (first | (refine store_new rfl 27 _ _ rfl _ _ _ rfl _ rfl _ rfl rfl ?_ ?_ ?_; (· (first | assumption | rfl)); (· kernel_rfl)) | (refine build_law rfl 27 rfl _ buildRack ?_))
  rw [← hb]
  clear hb
  obtain ⟨X, rfl⟩ : ∃ X : Nat, x = (X : Int) := ⟨x.toNat, by omega⟩
  obtain ⟨Y, rfl⟩ : ∃ Y : Nat, y = (Y : Int) := ⟨y.toNat, by omega⟩
  have hX : 1 ≤ X ∧ X ≤ 5 := by omega
  have hY : Y ≤ 6 := by omega
  clear hx hy
  go_loopg [6] 6 (fun gk i wr => ∃ p : Nat, gk = 6 - p ∧ p ≤ Y ∧ i = .int .i64 p ∧ Hid (Dr w c b (k + 100 + p * 100) wr))
  case atStart => exact ⟨0, rfl, by omega, rfl, DD⟩
  case round =>
    obtain ⟨p, rfl, hp, rfl, GD⟩ := hrel
    by_cases hpY : p < Y
    · have hp6 : p < 6 := by omega
      have hpi : (p : Int) < (Y : Int) := by omega
      have hpi6 : (p : Int) < 6 := by omega
      have hp0 : (0 : Int) ≤ (p : Int) := by omega
      go_wp2_with fail
      go_loopg [7] 4 (fun gk j wr => ∃ q : Nat, gk = 4 - q ∧ q ≤ 4 ∧ j = .int .i64 q ∧ Hid (Dr w c b (k + 100 + p * 100 + q * 10) wr))
      case atStart => exact ⟨0, rfl, by omega, rfl, GD⟩
      case round =>
        obtain ⟨q, rfl, hq, rfl, KD⟩ := hrel
        have KC := Lib.hid KD.out.cur
        go_wp2_with fail
        refine (among_at (fun n => 0 ≤ n ∧ n ≤ 4) _ _ 6 _ _ _ _ rfl KC.out (by omega) rfl (by omega) (by omega) ?_).mono ?_
        · intro v hv
          simp at hv
          rcases hv with rfl | rfl | rfl | rfl | rfl | rfl
          all_goals exact ⟨_, rfl, by omega, by omega⟩
        rintro e w3 ⟨z, rfl, hz4, c3, m3⟩
        have D3 := Lib.hid (KD.out.call c3 m3 hcw hbw)
        clear KD KC c3 m3
        by_cases hqz : (q : Int) < z
        · have hq4 : q < 4 := by omega
          have hqi : (q : Int) < 4 := by omega
          have hq0 : (0 : Int) ≤ (q : Int) := by omega
          have C3 := Lib.hid D3.out.cur
          go_wp2_with fail
          refine wp_region_held_drew (S := fun w' => True) (by kernel_rfl) trivial (fun hHeld => ?_)
          (refine wpAnyH_take (i := 0) (v := ?_) rfl (by kernel_rfl) (by kernel_rfl) (by kernel_rfl) (fun _ _ _ h => h) (Or.inl ⟨by rfl, ?_⟩) hHeld ?_; rotate_left; (· (intro w' hSw; go_simp; try with_reducible rfl)); (try simp only [List.getElem_toArray, List.getElem_cons_zero, List.getElem_cons_succ, Act.put, List.setIfInBounds_toArray, List.set_cons_zero, List.set_cons_succ])); (refine wpAnyH_take (i := 1) (v := ?_) rfl (by kernel_rfl) (by kernel_rfl) (by kernel_rfl) (fun _ _ _ h => h) (Or.inl ⟨by rfl, ?_⟩) hHeld ?_; rotate_left; (· (intro w' hSw; go_simp; try with_reducible rfl)); (try simp only [List.getElem_toArray, List.getElem_cons_zero, List.getElem_cons_succ, Act.put, List.setIfInBounds_toArray, List.set_cons_zero, List.set_cons_succ])); (refine wpAnyH_take (i := 2) (v := ?_) rfl (by kernel_rfl) (by kernel_rfl) (by kernel_rfl) (fun _ _ _ h => h) (Or.inl ⟨by rfl, ?_⟩) hHeld ?_; rotate_left; (· (intro w' hSw; go_simp; try with_reducible rfl)); (try simp only [List.getElem_toArray, List.getElem_cons_zero, List.getElem_cons_succ, Act.put, List.setIfInBounds_toArray, List.set_cons_zero, List.set_cons_succ])); (refine wpAnyH_take (i := 3) (v := ?_) rfl (by kernel_rfl) (by kernel_rfl) (by kernel_rfl) (fun _ _ _ h => h) (Or.inl ⟨by rfl, ?_⟩) hHeld ?_; rotate_left; (· (intro w' hSw; go_simp; try with_reducible rfl)); (try simp only [List.getElem_toArray, List.getElem_cons_zero, List.getElem_cons_succ, Act.put, List.setIfInBounds_toArray, List.set_cons_zero, List.set_cons_succ])); (refine wpAnyH_take (i := 6) (v := ?_) rfl (by kernel_rfl) (by kernel_rfl) (by kernel_rfl) (fun _ _ _ h => h) (Or.inl ⟨by rfl, ?_⟩) hHeld ?_; rotate_left; (· (intro w' hSw; go_simp; try with_reducible rfl)); (try simp only [List.getElem_toArray, List.getElem_cons_zero, List.getElem_cons_succ, Act.put, List.setIfInBounds_toArray, List.set_cons_zero, List.set_cons_succ])); (refine wpAnyH_take (i := 7) (v := ?_) rfl (by kernel_rfl) (by kernel_rfl) (by kernel_rfl) (fun _ _ _ h => h) (Or.inl ⟨by rfl, ?_⟩) hHeld ?_; rotate_left; (· (intro w' hSw; go_simp; try with_reducible rfl)); (try simp only [List.getElem_toArray, List.getElem_cons_zero, List.getElem_cons_succ, Act.put, List.setIfInBounds_toArray, List.set_cons_zero, List.set_cons_succ]))
          (refine wpAnyH_ready (rs := [4]) (by kernel_rfl) (by simp) ?_; refine AllReadyH.cons (o := _) rfl (fun K hK => ?_) AllReadyH.nil; (simp only [List.getElem_toArray, List.getElem_cons_zero, List.getElem_cons_succ, Region.wanted, if_true]))
          go_simp
          refine (pick_any c _ X _ (Cur.drewN C3.out 1) (by omega) (by omega) (by omega)).mono ?_
          rintro e w4 ⟨u, rfl, hu0, hu1, c4, m4⟩
          have D4 := Lib.hid ((D3.out.drewN 1).call c4 m4 hcw hbw)
          clear c4 m4 C3 D3
          dsimp only
          (try simp only [List.getElem_toArray, List.getElem_cons_zero, List.getElem_cons_succ, Act.put, List.setIfInBounds_toArray, List.set_cons_zero, List.set_cons_succ])
          refine hK.out _ _ trivial (fun hHeld => ?_)
          clear hK K
          (refine wpAnyH_take (i := 5) (v := ?_) rfl (by kernel_rfl) (by kernel_rfl) (by kernel_rfl) (fun _ _ _ h => h) (Or.inl ⟨by rfl, ?_⟩) hHeld ?_; rotate_left; (· (intro w' hSw; go_simp; try with_reducible rfl)); (try simp only [List.getElem_toArray, List.getElem_cons_zero, List.getElem_cons_succ, Act.put, List.setIfInBounds_toArray, List.set_cons_zero, List.set_cons_succ])); (refine wpAnyH_take (i := 8) (v := ?_) rfl (by kernel_rfl) (by kernel_rfl) (by kernel_rfl) (fun _ _ _ h => h) (Or.inl ⟨by rfl, ?_⟩) hHeld ?_; rotate_left; (· (intro w' hSw; go_simp; try with_reducible rfl)); (try simp only [List.getElem_toArray, List.getElem_cons_zero, List.getElem_cons_succ, Act.put, List.setIfInBounds_toArray, List.set_cons_zero, List.set_cons_succ]))
          obtain ⟨z0, cc, ff⟩ := D4.out.cell (p * 4 + q) (by omega)
          (refine wpAnyH_ready (rs := [9]) (by kernel_rfl) (by simp) ?_; refine AllReadyH.cons (o := _) rfl (fun K hK => ?_) AllReadyH.nil; (simp only [List.getElem_toArray, List.getElem_cons_zero, List.getElem_cons_succ, Region.wanted, if_true]))
          go_simp
          refine hK.out _ _ trivial (fun hHeld => ?_)
          clear hK K cc ff
          refine wpAnyH_done (by kernel_rfl) ?_ _
          have D5 := Lib.hid (D4.out.set (p * 4 + q) (1 + u) (by omega) hcw hbw)
          clear D4 hHeld
          rcases q with _ | q
          · go_wp2_with fail
            go_roundg (4 - (0 + 1))
            case rel => exact ⟨0 + 1, rfl, by omega, by go_num, Lib.hid (D5.out.mono (L := k + 100 + p * 100 + (0 + 1) * 10) (by omega))⟩
            case measure => omega
          · have C5 := Lib.hid D5.out.cur
            have hg0 : (0 : Int) < (q : Int) + 1 := by omega
            go_wp2_with fail
            refine (one_any c _ 3 _ C5.out (by omega) (by omega) (by omega)).mono ?_
            rintro e w6 ⟨t, rfl, c6, m6⟩
            have D6 := Lib.hid (D5.out.call c6 m6 hcw hbw)
            clear D5 C5 c6 m6
            cases t with
            | false =>
              go_wp2_with fail
              go_roundg (4 - (q + 1 + 1))
              case rel => exact ⟨q + 1 + 1, rfl, by omega, by go_num, Lib.hid (D6.out.mono (L := k + 100 + p * 100 + (q + 1 + 1) * 10) (by omega))⟩
              case measure => omega
            | true =>
              have hq3 : (q : Int) < 4 := by omega
              have hq00 : (0 : Int) ≤ (q : Int) := by omega
              have hqs1 : (0 : Int) ≤ (q : Int) + 1 := by omega
              have hqs2 : (q : Int) + 1 < 4 := by omega
              have wq : IntKind.i64.wrap (q : Int) = (q : Int) := IntWalk.i64_in _ (by omega)
              obtain ⟨z1, cc1, ff1⟩ := D6.out.cell (p * 4 + q) (by omega)
              obtain ⟨z2, cc2, ff2⟩ := D6.out.cell (p * 4 + (q + 1)) (by omega)
              go_wp2_with fail
              refine wp_region_held_drew (S := fun w' => True) (by kernel_rfl) trivial (fun hHeld => ?_)
              (refine wpAnyH_take (i := 0) (v := ?_) rfl (by kernel_rfl) (by kernel_rfl) (by kernel_rfl) (fun _ _ _ h => h) (Or.inl ⟨by rfl, ?_⟩) hHeld ?_; rotate_left; (· (intro w' hSw; go_simp; try with_reducible rfl)); (try simp only [List.getElem_toArray, List.getElem_cons_zero, List.getElem_cons_succ, Act.put, List.setIfInBounds_toArray, List.set_cons_zero, List.set_cons_succ])); (refine wpAnyH_take (i := 1) (v := ?_) rfl (by kernel_rfl) (by kernel_rfl) (by kernel_rfl) (fun _ _ _ h => h) (Or.inl ⟨by rfl, ?_⟩) hHeld ?_; rotate_left; (· (intro w' hSw; go_simp; try with_reducible rfl)); (try simp only [List.getElem_toArray, List.getElem_cons_zero, List.getElem_cons_succ, Act.put, List.setIfInBounds_toArray, List.set_cons_zero, List.set_cons_succ])); (refine wpAnyH_take (i := 2) (v := ?_) rfl (by kernel_rfl) (by kernel_rfl) (by kernel_rfl) (fun _ _ _ h => h) (Or.inl ⟨by rfl, ?_⟩) hHeld ?_; rotate_left; (· (intro w' hSw; go_simp; try with_reducible rfl)); (try simp only [List.getElem_toArray, List.getElem_cons_zero, List.getElem_cons_succ, Act.put, List.setIfInBounds_toArray, List.set_cons_zero, List.set_cons_succ])); (refine wpAnyH_take (i := 3) (v := ?_) rfl (by kernel_rfl) (by kernel_rfl) (by kernel_rfl) (fun _ _ _ h => h) (Or.inl ⟨by rfl, ?_⟩) hHeld ?_; rotate_left; (· (intro w' hSw; go_simp; try with_reducible rfl)); (try simp only [List.getElem_toArray, List.getElem_cons_zero, List.getElem_cons_succ, Act.put, List.setIfInBounds_toArray, List.set_cons_zero, List.set_cons_succ])); (refine wpAnyH_take (i := 4) (v := ?_) rfl (by kernel_rfl) (by kernel_rfl) (by kernel_rfl) (fun _ _ _ h => h) (Or.inl ⟨by rfl, ?_⟩) hHeld ?_; rotate_left; (· (intro w' hSw; go_simp; try with_reducible rfl)); (try simp only [List.getElem_toArray, List.getElem_cons_zero, List.getElem_cons_succ, Act.put, List.setIfInBounds_toArray, List.set_cons_zero, List.set_cons_succ])); (refine wpAnyH_take (i := 5) (v := ?_) rfl (by kernel_rfl) (by kernel_rfl) (by kernel_rfl) (fun _ _ _ h => h) (Or.inl ⟨by rfl, ?_⟩) hHeld ?_; rotate_left; (· (intro w' hSw; go_simp; try with_reducible rfl)); (try simp only [List.getElem_toArray, List.getElem_cons_zero, List.getElem_cons_succ, Act.put, List.setIfInBounds_toArray, List.set_cons_zero, List.set_cons_succ])); (refine wpAnyH_take (i := 6) (v := ?_) rfl (by kernel_rfl) (by kernel_rfl) (by kernel_rfl) (fun _ _ _ h => h) (Or.inl ⟨by rfl, ?_⟩) hHeld ?_; rotate_left; (· (intro w' hSw; go_simp; try with_reducible rfl)); (try simp only [List.getElem_toArray, List.getElem_cons_zero, List.getElem_cons_succ, Act.put, List.setIfInBounds_toArray, List.set_cons_zero, List.set_cons_succ])); (refine wpAnyH_take (i := 7) (v := ?_) rfl (by kernel_rfl) (by kernel_rfl) (by kernel_rfl) (fun _ _ _ h => h) (Or.inl ⟨by rfl, ?_⟩) hHeld ?_; rotate_left; (· (intro w' hSw; go_simp; try with_reducible rfl)); (try simp only [List.getElem_toArray, List.getElem_cons_zero, List.getElem_cons_succ, Act.put, List.setIfInBounds_toArray, List.set_cons_zero, List.set_cons_succ])); (refine wpAnyH_take (i := 9) (v := ?_) rfl (by kernel_rfl) (by kernel_rfl) (by kernel_rfl) (fun _ _ _ h => h) (Or.inl ⟨by rfl, ?_⟩) hHeld ?_; rotate_left; (· (intro w' hSw; go_simp; try with_reducible rfl)); (try simp only [List.getElem_toArray, List.getElem_cons_zero, List.getElem_cons_succ, Act.put, List.setIfInBounds_toArray, List.set_cons_zero, List.set_cons_succ])); (refine wpAnyH_take (i := 10) (v := ?_) rfl (by kernel_rfl) (by kernel_rfl) (by kernel_rfl) (fun _ _ _ h => h) (Or.inl ⟨by rfl, ?_⟩) hHeld ?_; rotate_left; (· (intro w' hSw; go_simp; try with_reducible rfl)); (try simp only [List.getElem_toArray, List.getElem_cons_zero, List.getElem_cons_succ, Act.put, List.setIfInBounds_toArray, List.set_cons_zero, List.set_cons_succ]))
              (refine wpAnyH_ready (rs := [8]) (by kernel_rfl) (by simp) ?_; refine AllReadyH.cons (o := _) rfl (fun K hK => ?_) AllReadyH.nil; (simp only [List.getElem_toArray, List.getElem_cons_zero, List.getElem_cons_succ, Region.wanted, if_true]))
              go_simp
              refine hK.out _ _ trivial (fun hHeld => ?_)
              clear hK K
              (refine wpAnyH_take (i := 11) (v := ?_) rfl (by kernel_rfl) (by kernel_rfl) (by kernel_rfl) (fun _ _ _ h => h) (Or.inl ⟨by rfl, ?_⟩) hHeld ?_; rotate_left; (· (intro w' hSw; go_simp; try with_reducible rfl)); (try simp only [List.getElem_toArray, List.getElem_cons_zero, List.getElem_cons_succ, Act.put, List.setIfInBounds_toArray, List.set_cons_zero, List.set_cons_succ]))
              (refine wpAnyH_ready (rs := [12]) (by kernel_rfl) (by simp) ?_; refine AllReadyH.cons (o := _) rfl (fun K hK => ?_) AllReadyH.nil; (simp only [List.getElem_toArray, List.getElem_cons_zero, List.getElem_cons_succ, Region.wanted, if_true]))
              go_simp
              refine hK.out _ _ trivial (fun hHeld => ?_)
              clear hK K
              refine wpAnyH_done (by kernel_rfl) ?_ _
              have D7 := Lib.hid ((D6.out.drewN 1).set (p * 4 + (q + 1)) z1 (by omega) hcw hbw)
              clear D6 hHeld cc1 ff1 cc2 ff2
              go_wp2_with fail
              go_roundg (4 - (q + 1 + 1))
              case rel => exact ⟨q + 1 + 1, rfl, by omega, by go_num, Lib.hid (D7.out.mono (L := k + 100 + p * 100 + (q + 1 + 1) * 10) (by omega))⟩
              case measure => omega
        · have hD := Lib.hid (D3.out.mono (L := k + 100 + (p + 1) * 100) (by omega))
          clear D3
          go_wp2_with fail
          go_roundg (6 - (p + 1))
          case rel => exact ⟨p + 1, rfl, by omega, by go_num, hD⟩
          case measure => omega
    · have D1 := Lib.hid (GD.out.mono (L := k + 1000) (by omega))
      clear GD
      go_wp2_with fail
      go_loopg [8] 6 (fun gk i wr => ∃ p : Nat, gk = 6 - p ∧ p ≤ 6 ∧ i = .int .i64 p ∧ Hid (Dr w c b (k + 1000) wr))
      case atStart => exact ⟨0, rfl, by omega, rfl, D1⟩
      case round =>
        obtain ⟨p, rfl, hp, rfl, GD⟩ := hrel
        by_cases hp6 : p < 6
        · have hpi : (p : Int) < 6 := by omega
          have hp0 : (0 : Int) ≤ (p : Int) := by omega
          go_wp2_with fail
          go_loopg [9] 4 (fun gk j wr => ∃ q : Nat, gk = 4 - q ∧ q ≤ 3 ∧ j = .int .i64 (q + 1) ∧ Hid (Dr w c b (k + 1000) wr))
          case atStart => exact ⟨0, rfl, by omega, rfl, GD⟩
          case round =>
            obtain ⟨q, rfl, hq, rfl, KD⟩ := hrel
            by_cases hq3 : q < 3
            · have hqi : (q : Int) + 1 < 4 := by omega
              have hqi2 : (q : Int) < 4 := by omega
              have hq0 : (0 : Int) ≤ (q : Int) := by omega
              have hqt : ((q : Int) + 1).toNat = q + 1 := by omega
              obtain ⟨z1, cc1, ff1⟩ := KD.out.cell (p * 4 + q) (by omega)
              obtain ⟨z2, cc2, ff2⟩ := KD.out.cell (p * 4 + (q + 1)) (by omega)
              by_cases hz0 : z1 = 0
              · have D7 := Lib.hid (KD.out.set (p * 4 + (q + 1)) 0 (by omega) hcw hbw)
                subst hz0
                go_wp2_with fail
                go_roundg (4 - (q + 1))
                case rel => exact ⟨q + 1, rfl, by omega, by go_num, D7⟩
                case measure => omega
              · have qz : (z1 == 0) = false := by simpa using hz0
                clear hz0
                go_wp2_with fail
                go_roundg (4 - (q + 1))
                case rel => exact ⟨q + 1, rfl, by omega, by go_num, KD⟩
                case measure => omega
            · obtain rfl : q = 3 := by omega
              go_wp2_with fail
              go_roundg (6 - (p + 1))
              case rel => exact ⟨p + 1, rfl, by omega, by go_num, KD⟩
              case measure => omega
        · have C1 := Lib.hid GD.out.cur
          go_wp2_with fail
          refine (one_any c _ 3 _ C1.out (by omega) (by omega) (by omega)).mono ?_
          rintro e w6 ⟨t, rfl, c6, m6⟩
          have D6 := Lib.hid (GD.out.call c6 m6 hcw hbw)
          clear GD C1 c6 m6
          cases t
          case' false =>
            obtain ⟨WZ, hWZ, DZ⟩ : ∃ W, W = w6 ∧ Hid (Dr w c b (k + 2000) W) := ⟨_, rfl, Lib.hid (D6.out.mono (by omega))⟩
            clear D6
            go_wp2_with fail
            rw [← hWZ]
            clear hWZ
          case' true =>
            have C6 := Lib.hid D6.out.cur
            go_wp2_with fail
            refine (pick_any c _ 6 _ C6.out (by omega) (by omega) (by omega)).mono ?_
            rintro e w7 ⟨u, rfl, hu0, hu1, c7, m7⟩
            have D7 := Lib.hid (D6.out.call c7 m7 hcw hbw)
            have C7 := Lib.hid c7
            clear D6 C6 c7 m7
            go_wp2_with fail
            refine (pick_any c _ 6 _ C7.out (by omega) (by omega) (by omega)).mono ?_
            rintro e w8 ⟨v, rfl, hv0, hv1, c8, m8⟩
            have D8 := Lib.hid (D7.out.call c8 m8 hcw hbw)
            clear D7 C7 c8 m8
            obtain ⟨I, rfl⟩ : ∃ I : Nat, u = (I : Int) := ⟨u.toNat, by omega⟩
            obtain ⟨J, rfl⟩ : ∃ J : Nat, v = (J : Int) := ⟨v.toNat, by omega⟩
            have hI : I < 6 := by omega
            have hJ : J < 6 := by omega
            obtain ⟨R, hR⟩ := D8.out.rack
            have hbs := hR.lt
            have sI := tub_len R I hR.len hI
            have sJ := tub_len R J hR.len hJ
            have l1 : (ints (tub R I)).length = 4 := by rw [ints_len]; exact sI
            have l2 : (ints (tub R J)).length = 4 := by rw [ints_len]; exact sJ
            have hi1 : (Try.prog.info? 24).map (·.size) = some (ints (tub R I)).length := by rw [l1]; kernel_rfl
            have hi2 : (Try.prog.info? 24).map (·.size) = some (ints (tub R J)).length := by rw [l2]; kernel_rfl
            go_wp2_with fail
            refine wp_region_held_drew (S := fun w' => HasOnly w' b R) (by kernel_rfl) ⟨hR.drew⟩ (fun hHeld => ?_)
            (refine wpAnyH_take (i := 0) (v := ?_) rfl (by kernel_rfl) (by kernel_rfl) (by kernel_rfl) (fun _ _ _ h => h) (Or.inl ⟨by rfl, ?_⟩) hHeld ?_; rotate_left; (· (intro w' hSw; go_simp; try with_reducible rfl)); (try simp only [List.getElem_toArray, List.getElem_cons_zero, List.getElem_cons_succ, Act.put, List.setIfInBounds_toArray, List.set_cons_zero, List.set_cons_succ])); (refine wpAnyH_take (i := 1) (v := ?_) rfl (by kernel_rfl) (by kernel_rfl) (by kernel_rfl) (fun _ _ _ h => h) (Or.inl ⟨by rfl, ?_⟩) hHeld ?_; rotate_left; (· (intro w' hSw; go_simp; try with_reducible rfl)); (try simp only [List.getElem_toArray, List.getElem_cons_zero, List.getElem_cons_succ, Act.put, List.setIfInBounds_toArray, List.set_cons_zero, List.set_cons_succ])); (refine wpAnyH_take (i := 2) (v := ?_) rfl (by kernel_rfl) (by kernel_rfl) (by kernel_rfl) (fun _ _ _ h => h) (Or.inl ⟨by rfl, ?_⟩) hHeld ?_; rotate_left; (· (intro w' hSw; go_simp; try with_reducible rfl)); (try simp only [List.getElem_toArray, List.getElem_cons_zero, List.getElem_cons_succ, Act.put, List.setIfInBounds_toArray, List.set_cons_zero, List.set_cons_succ])); (refine wpAnyH_take (i := 4) (v := ?_) rfl (by kernel_rfl) (by kernel_rfl) (by kernel_rfl) (fun _ _ _ h => h) (Or.inl ⟨by rfl, ?_⟩) hHeld ?_; rotate_left; (· (intro w' hSw; go_simp; try with_reducible rfl)); (try simp only [List.getElem_toArray, List.getElem_cons_zero, List.getElem_cons_succ, Act.put, List.setIfInBounds_toArray, List.set_cons_zero, List.set_cons_succ])); (refine wpAnyH_take (i := 5) (v := ?_) rfl (by kernel_rfl) (by kernel_rfl) (by kernel_rfl) (fun _ _ _ h => h) (Or.inl ⟨by rfl, ?_⟩) hHeld ?_; rotate_left; (· (intro w' hSw; go_simp; try with_reducible rfl)); (try simp only [List.getElem_toArray, List.getElem_cons_zero, List.getElem_cons_succ, Act.put, List.setIfInBounds_toArray, List.set_cons_zero, List.set_cons_succ])); (refine wpAnyH_take (i := 6) (v := ?_) rfl (by kernel_rfl) (by kernel_rfl) (by kernel_rfl) (fun _ _ _ h => h) (Or.inl ⟨by rfl, ?_⟩) hHeld ?_; rotate_left; (· (intro w' hSw; go_simp; try with_reducible rfl)); (try simp only [List.getElem_toArray, List.getElem_cons_zero, List.getElem_cons_succ, Act.put, List.setIfInBounds_toArray, List.set_cons_zero, List.set_cons_succ]))
            (refine wpAnyH_take (i := 3) (v := _) rfl (by kernel_rfl) (by kernel_rfl) (by kernel_rfl) (fun _ _ _ h => h) (yieldsIf_load_mid (by rfl) 24 _ rfl _ _ rfl (ints (tub R I)) _ (fun w' hSw => hSw.1.holds.sub (I * 4) 4) Try.underlying24 rfl (hi1)) hHeld ?_; (try simp only [List.getElem_toArray, List.getElem_cons_zero, List.getElem_cons_succ, Act.put, List.setIfInBounds_toArray, List.set_cons_zero, List.set_cons_succ]))
            (refine wpAnyH_take (i := 7) (v := _) rfl (by kernel_rfl) (by kernel_rfl) (by kernel_rfl) (fun _ _ _ h => h) (yieldsIf_load_mid (by rfl) 24 _ rfl _ _ rfl (ints (tub R J)) _ (fun w' hSw => hSw.1.holds.sub (J * 4) 4) Try.underlying24 rfl (hi2)) hHeld ?_; (try simp only [List.getElem_toArray, List.getElem_cons_zero, List.getElem_cons_succ, Act.put, List.setIfInBounds_toArray, List.set_cons_zero, List.set_cons_succ]))
            refine wpAnyH_ready (rs := [8, 9]) (by kernel_rfl) (by simp) ?_
            refine AllReadyH.cons (o := _) rfl (fun K hK => ?aFirst) (AllReadyH.cons (o := _) rfl (fun K hK => ?bFirst) AllReadyH.nil)
            case' aFirst =>
              (simp only [List.getElem_toArray, List.getElem_cons_zero, List.getElem_cons_succ, Region.wanted, if_true])
              go_simp
              refine hK.out _ _ ⟨hHeld.1.alloc _⟩ (fun hHeld => ?_)
              clear hK K
              (refine wpAnyH_ready (rs := [9]) (by kernel_rfl) (by simp) ?_; refine AllReadyH.cons (o := _) rfl (fun K hK => ?_) AllReadyH.nil; (simp only [List.getElem_toArray, List.getElem_cons_zero, List.getElem_cons_succ, Region.wanted, if_true]))
              go_simp
              refine hK.out _ _ ⟨hHeld.1.alloc _⟩ (fun hHeld => ?_)
              clear hK K
              obtain ⟨ba, hba⟩ : ∃ ba, ba = w8.heap.size := ⟨_, rfl⟩
              obtain ⟨bb, hbb⟩ : ∃ bb, bb = w8.heap.size + 1 := ⟨_, rfl⟩
              have B8 : Has ((w8.alloc (.cells #[.int .i64 0, .int .i64 0, .int .i64 0, .int .i64 0] 24)).alloc (.cells #[.int .i64 0, .int .i64 0, .int .i64 0, .int .i64 0] 24)).drew ba [0, 0, 0, 0] 4 := by rw [hba]; exact ((Has.zero w8 _).alloc _).drew
              have B9 : Has ((w8.alloc (.cells #[.int .i64 0, .int .i64 0, .int .i64 0, .int .i64 0] 24)).alloc (.cells #[.int .i64 0, .int .i64 0, .int .i64 0, .int .i64 0] 24)).drew bb [0, 0, 0, 0] 4 := by rw [hbb]; exact ((Has.zero (w8.alloc _) _).at (size1 _ _)).drew
              rw [← hbb, ← hba]
              have e1 : b < ba := by omega
              have e2 : b < bb := by omega
              have e3 : ba ≠ bb := by omega
              clear hba hbb
            case' bFirst =>
              (simp only [List.getElem_toArray, List.getElem_cons_zero, List.getElem_cons_succ, Region.wanted, if_true])
              go_simp
              refine hK.out _ _ ⟨hHeld.1.alloc _⟩ (fun hHeld => ?_)
              clear hK K
              (refine wpAnyH_ready (rs := [8]) (by kernel_rfl) (by simp) ?_; refine AllReadyH.cons (o := _) rfl (fun K hK => ?_) AllReadyH.nil; (simp only [List.getElem_toArray, List.getElem_cons_zero, List.getElem_cons_succ, Region.wanted, if_true]))
              go_simp
              refine hK.out _ _ ⟨hHeld.1.alloc _⟩ (fun hHeld => ?_)
              clear hK K
              obtain ⟨bb, hbb⟩ : ∃ bb, bb = w8.heap.size := ⟨_, rfl⟩
              obtain ⟨ba, hba⟩ : ∃ ba, ba = w8.heap.size + 1 := ⟨_, rfl⟩
              have B9 : Has ((w8.alloc (.cells #[.int .i64 0, .int .i64 0, .int .i64 0, .int .i64 0] 24)).alloc (.cells #[.int .i64 0, .int .i64 0, .int .i64 0, .int .i64 0] 24)).drew bb [0, 0, 0, 0] 4 := by rw [hbb]; exact ((Has.zero w8 _).alloc _).drew
              have B8 : Has ((w8.alloc (.cells #[.int .i64 0, .int .i64 0, .int .i64 0, .int .i64 0] 24)).alloc (.cells #[.int .i64 0, .int .i64 0, .int .i64 0, .int .i64 0] 24)).drew ba [0, 0, 0, 0] 4 := by rw [hba]; exact ((Has.zero (w8.alloc _) _).at (size1 _ _)).drew
              rw [← hba, ← hbb]
              have e1 : b < ba := by omega
              have e2 : b < bb := by omega
              have e3 : ba ≠ bb := by omega
              clear hba hbb
            all_goals
              have D9 := ((D8.out.alloc (.cells #[.int .i64 0, .int .i64 0, .int .i64 0, .int .i64 0] 24)).alloc (.cells #[.int .i64 0, .int .i64 0, .int .i64 0, .int .i64 0] 24)).drew
              have C8 := (B8.putAll (tub R I) sI).putOther (b' := bb) 0 (ints (tub R J)) (by omega)
              have C9 := (B9.putOther (b' := ba) 0 (ints (tub R I)) (by omega)).putAll (tub R J) sJ
              have D10 := Lib.hid (((D9.putOther (b' := ba) 0 (ints (tub R I)) hcw hbw (by omega)).putOther (b' := bb) 0 (ints (tub R J)) hcw hbw (by omega)).mono (L := k + 2000) (by omega))
              (refine wpAnyH_ready (rs := [10]) (by kernel_rfl) (by simp) ?_; refine AllReadyH.cons (o := _) rfl (fun K hK => ?_) AllReadyH.nil; (simp only [List.getElem_toArray, List.getElem_cons_zero, List.getElem_cons_succ, Region.wanted, if_true]); refine wp_store_mid _ _ _ rfl _ _ (ints (tub R I)).toArray rfl rfl (by simpa [l1] using B8.there) (by simpa [l1] using hi1) (all_oneCell_toArray (ints_one _)) ?_; (try simp only [List.getElem_toArray, List.getElem_cons_zero, List.getElem_cons_succ, Act.put, List.setIfInBounds_toArray, List.set_cons_zero, List.set_cons_succ, List.toList_toArray]); refine hK.out _ _ (⟨hHeld.1.putOther _ _ (by omega)⟩) (fun hHeld => ?_); clear hK K)
              (refine wpAnyH_ready (rs := [11]) (by kernel_rfl) (by simp) ?_; refine AllReadyH.cons (o := _) rfl (fun K hK => ?_) AllReadyH.nil; (simp only [List.getElem_toArray, List.getElem_cons_zero, List.getElem_cons_succ, Region.wanted, if_true]); refine wp_store_mid _ _ _ rfl _ _ (ints (tub R J)).toArray rfl rfl (by simpa [l2] using (B9.putOther (b' := ba) 0 (ints (tub R I)) (by omega)).there) (by simpa [l2] using hi2) (all_oneCell_toArray (ints_one _)) ?_; (try simp only [List.getElem_toArray, List.getElem_cons_zero, List.getElem_cons_succ, Act.put, List.setIfInBounds_toArray, List.set_cons_zero, List.set_cons_succ, List.toList_toArray]); refine hK.out _ _ (⟨hHeld.1.putOther _ _ (by omega)⟩) (fun hHeld => ?_); clear hK K)
              refine wpAnyH_done (by kernel_rfl) ?_ _
              clear B8 B9 hHeld D9 hR D8
              obtain ⟨R1, hR1⟩ := D10.out.rack
              have t1 := Lib.hid (hR1.holds.thereSub (I * 4) 4 (by rw [ints_len, hR1.len]; omega))
              have D11 := Lib.hid (D10.out.putTub I hI (tub R J) sJ hcw hbw)
              have C10 := C8.putOther (b' := b) (I * 4) (ints (tub R J)) (by omega)
              obtain ⟨R2, hR2⟩ := D11.out.rack
              have t2 := Lib.hid (hR2.holds.thereSub (J * 4) 4 (by rw [ints_len, hR2.len]; omega))
              have D12 := Lib.hid (D11.out.putTub J hJ (tub R I) sI hcw hbw)
              clear hR1 hR2 D10 D11 hi1 hi2 l1 l2
              obtain ⟨WZ, hWZ, DZ⟩ : ∃ W, W = _ ∧ Hid (Dr w c b (k + 2000) W) := ⟨_, rfl, D12⟩
              go_wp2_with (first | (refine load_has rfl 24 _ rfl _ rfl ?_ 4 ?_ _ Try.underlying24 rfl ?_ ?_; rotate_left; (· (repeat (first | (with_reducible assumption) | ((with_reducible refine Has.box _ _ ?_ ?_) <;> (first | assumption | decide)) | (with_reducible refine Has.alloc ?_ _) | ((with_reducible refine Has.putOther ?_ _ _ ?_); rotate_left; omega; skip) | ((with_reducible refine Has.below ?_ ?_); rotate_left; assumption)))); (· kernel_rfl)) | (refine store_has rfl 24 _ _ rfl b (I * 4) (tub R J) rfl rfl 4 sJ t1.out ?_ ?_; (· kernel_rfl)) | (refine store_has rfl 24 _ _ rfl b (J * 4) (tub R I) rfl rfl 4 sI t2.out ?_ ?_; (· kernel_rfl)))
              rw [← hWZ]
              clear hWZ D12
          all_goals
            have CZ := Lib.hid DZ.out.cur
            refine (pick_any c _ 40 _ CZ.out (by omega) (by omega) (by omega)).mono ?_
            rintro e w20 ⟨sw, rfl, hs0, hs1, c20, m20⟩
            have D20 := Lib.hid (DZ.out.call c20 m20 hcw hbw)
            have C20 := Lib.hid c20
            clear DZ CZ c20 m20
            by_cases q0 : sw = 0
            · subst q0
              obtain ⟨W5, hW5⟩ : ∃ W5, W5 = w20.drew := ⟨_, rfl⟩
              have D21 : Hid (Dr w c b (k + 2000 + 2) W5) := Lib.hid (by rw [hW5]; exact D20.out.drewN 1)
              have C21 : Hid (Cur W5 c (k + 2000 + 2)) := Lib.hid D21.out.cur
              go_wp2_with fail
              refine wp_region_held_drew (S := fun w' => True) (by kernel_rfl) trivial (fun hHeld => ?_)
              rw [← hW5]
              clear hW5 D20 C20
              (refine wpAnyH_take (i := 0) (v := ?_) rfl (by kernel_rfl) (by kernel_rfl) (by kernel_rfl) (fun _ _ _ h => h) (Or.inl ⟨by rfl, ?_⟩) hHeld ?_; rotate_left; (· (intro w' hSw; go_simp; try with_reducible rfl)); (try simp only [List.getElem_toArray, List.getElem_cons_zero, List.getElem_cons_succ, Act.put, List.setIfInBounds_toArray, List.set_cons_zero, List.set_cons_succ])); (refine wpAnyH_take (i := 2) (v := ?_) rfl (by kernel_rfl) (by kernel_rfl) (by kernel_rfl) (fun _ _ _ h => h) (Or.inl ⟨by rfl, ?_⟩) hHeld ?_; rotate_left; (· (intro w' hSw; go_simp; try with_reducible rfl)); (try simp only [List.getElem_toArray, List.getElem_cons_zero, List.getElem_cons_succ, Act.put, List.setIfInBounds_toArray, List.set_cons_zero, List.set_cons_succ])); (refine wpAnyH_take (i := 4) (v := ?_) rfl (by kernel_rfl) (by kernel_rfl) (by kernel_rfl) (fun _ _ _ h => h) (Or.inl ⟨by rfl, ?_⟩) hHeld ?_; rotate_left; (· (intro w' hSw; go_simp; try with_reducible rfl)); (try simp only [List.getElem_toArray, List.getElem_cons_zero, List.getElem_cons_succ, Act.put, List.setIfInBounds_toArray, List.set_cons_zero, List.set_cons_succ])); (refine wpAnyH_take (i := 7) (v := ?_) rfl (by kernel_rfl) (by kernel_rfl) (by kernel_rfl) (fun _ _ _ h => h) (Or.inl ⟨by rfl, ?_⟩) hHeld ?_; rotate_left; (· (intro w' hSw; go_simp; try with_reducible rfl)); (try simp only [List.getElem_toArray, List.getElem_cons_zero, List.getElem_cons_succ, Act.put, List.setIfInBounds_toArray, List.set_cons_zero, List.set_cons_succ]))
              refine wpAnyH_ready (rs := [1, 5]) (by kernel_rfl) (by simp) ?_
              refine AllReadyH.cons (o := _) rfl (fun K hK => ?_) (AllReadyH.cons (o := _) rfl (fun K hK => ?_) AllReadyH.nil)
              · (simp only [List.getElem_toArray, List.getElem_cons_zero, List.getElem_cons_succ, Region.wanted, if_true])
                go_simp
                refine (pick_any c _ 6 _ C21.out (by omega) (by omega) (by omega)).mono ?_
                rintro e w22 ⟨u, rfl, hu0, hu1, cc, mm⟩
                have Dw22 := Lib.hid (D21.out.call cc mm hcw hbw)
                have Cw22 := Lib.hid cc
                have Mw22 := Lib.hid mm
                clear cc mm C21 D21
                obtain ⟨I, rfl⟩ : ∃ I : Nat, u = (I : Int) := ⟨u.toNat, by omega⟩
                have hI : I < 6 := by omega
                have hIi : (I : Int) < 6 := by omega
                have hI0 : (0 : Int) ≤ (I : Int) := by omega
                clear hu0 hu1
                dsimp only
                (try simp only [List.getElem_toArray, List.getElem_cons_zero, List.getElem_cons_succ, Act.put, List.setIfInBounds_toArray, List.set_cons_zero, List.set_cons_succ])
                refine hK.out _ _ trivial (fun hHeld => ?_)
                clear hK K
                (refine wpAnyH_take (i := 8) (v := ?_) rfl (by kernel_rfl) (by kernel_rfl) (by kernel_rfl) (fun _ _ _ h => h) (Or.inl ⟨by rfl, ?_⟩) hHeld ?_; rotate_left; (· (intro w' hSw; go_simp; try with_reducible rfl)); (try simp only [List.getElem_toArray, List.getElem_cons_zero, List.getElem_cons_succ, Act.put, List.setIfInBounds_toArray, List.set_cons_zero, List.set_cons_succ]))
                refine wpAnyH_ready (rs := [3, 5]) (by kernel_rfl) (by simp) ?_
                refine AllReadyH.cons (o := _) rfl (fun K hK => ?_) (AllReadyH.cons (o := _) rfl (fun K hK => ?_) AllReadyH.nil)
                · (simp only [List.getElem_toArray, List.getElem_cons_zero, List.getElem_cons_succ, Region.wanted, if_true])
                  go_simp
                  refine (pick_any c _ 4 _ Cw22.out (by omega) (by omega) (by omega)).mono ?_
                  rintro e w23 ⟨u, rfl, hu0, hu1, cc, mm⟩
                  have Dw23 := Lib.hid (Dw22.out.call cc mm hcw hbw)
                  have Cw23 := Lib.hid cc
                  have Mw23 := Lib.hid mm
                  clear cc mm Cw22 Dw22
                  obtain ⟨J, rfl⟩ : ∃ J : Nat, u = (J : Int) := ⟨u.toNat, by omega⟩
                  have hJ : J < 4 := by omega
                  have hJi : (J : Int) < 4 := by omega
                  have hJ0 : (0 : Int) ≤ (J : Int) := by omega
                  clear hu0 hu1
                  dsimp only
                  (try simp only [List.getElem_toArray, List.getElem_cons_zero, List.getElem_cons_succ, Act.put, List.setIfInBounds_toArray, List.set_cons_zero, List.set_cons_succ])
                  refine hK.out _ _ trivial (fun hHeld => ?_)
                  clear hK K
                  (refine wpAnyH_ready (rs := [5]) (by kernel_rfl) (by simp) ?_; refine AllReadyH.cons (o := _) rfl (fun K hK => ?_) AllReadyH.nil; (simp only [List.getElem_toArray, List.getElem_cons_zero, List.getElem_cons_succ, Region.wanted, if_true]))
                  go_simp
                  refine hK.out _ _ trivial (fun hHeld => ?_)
                  clear hK K
                  obtain ⟨g, hg⟩ : ∃ g, g = w23.heap.size := ⟨_, rfl⟩
                  have RG := Lib.hid (rowI_new (fun _ => True) w23 #[.int .i64 (-1), .int .i64 6, .int .i64 4611686018427387904] 3 3 rfl (anyInts _ rfl))
                  have GL : Hid (w23.heap.size < (w23.alloc (.cells #[.int .i64 (-1), .int .i64 6, .int .i64 4611686018427387904] 3)).heap.size) := Lib.hid (by rw [size1]; exact Nat.lt_succ_self _)
                  have GC : Hid (w23.heap.size ≠ c) := Lib.hid (by have := Dw23.out.lt; omega)
                  have D24 := Lib.hid (Dw23.out.alloc (.cells #[.int .i64 (-1), .int .i64 6, .int .i64 4611686018427387904] 3))
                  have C24 := Lib.hid (Cur.alloc Cw23.out (.cells #[.int .i64 (-1), .int .i64 6, .int .i64 4611686018427387904] 3))
                  rw [← hg]
                  rw [← hg] at RG GL GC
                  clear Dw23 Cw23 hg
                  (refine wpAnyH_ready (rs := [6]) (by kernel_rfl) (by simp) ?_; refine AllReadyH.cons (o := _) rfl (fun K hK => ?_) AllReadyH.nil; (simp only [List.getElem_toArray, List.getElem_cons_zero, List.getElem_cons_succ, Region.wanted, if_true]))
                  go_simp
                  refine (among_any (fun _ => True) c _ g 3 3 _ C24.out (by omega) (by omega) (by omega) RG.out GC.out).mono ?_
                  rintro e w25 ⟨am, rfl, _, cc, mm⟩
                  have Dw25 := Lib.hid (D24.out.call cc mm hcw hbw)
                  clear cc mm C24 D24
                  dsimp only
                  (try simp only [List.getElem_toArray, List.getElem_cons_zero, List.getElem_cons_succ, Act.put, List.setIfInBounds_toArray, List.set_cons_zero, List.set_cons_succ])
                  refine hK.out _ _ trivial (fun hHeld => ?_)
                  clear hK K
                  (refine wpAnyH_take (i := 9) (v := ?_) rfl (by kernel_rfl) (by kernel_rfl) (by kernel_rfl) (fun _ _ _ h => h) (Or.inl ⟨by rfl, ?_⟩) hHeld ?_; rotate_left; (· (intro w' hSw; go_simp; try with_reducible rfl)); (try simp only [List.getElem_toArray, List.getElem_cons_zero, List.getElem_cons_succ, Act.put, List.setIfInBounds_toArray, List.set_cons_zero, List.set_cons_succ]))
                  obtain ⟨z0, cc0, ff0⟩ := Dw25.out.cell (I * 4 + J) (by omega)
                  (refine wpAnyH_ready (rs := [10]) (by kernel_rfl) (by simp) ?_; refine AllReadyH.cons (o := _) rfl (fun K hK => ?_) AllReadyH.nil; (simp only [List.getElem_toArray, List.getElem_cons_zero, List.getElem_cons_succ, Region.wanted, if_true]))
                  go_simp
                  refine hK.out _ _ trivial (fun hHeld => ?_)
                  clear hK K
                  refine wpAnyH_done (by kernel_rfl) ?_ _
                  have DE := Lib.hid ((Dw25.out.set (I * 4 + J) am (by omega) hcw hbw).mono (L := k + 10000) (by omega))
                  clear Dw25 hHeld cc0 ff0
                  obtain ⟨R2, hR2⟩ := DE.out.rack
                  obtain ⟨S1, S2, S3⟩ := DE.out.done hR2.len hcw
                  have T1 := Lib.hid S1; have T2 := Lib.hid S2; have T3 := Lib.hid S3
                  have hr := hR2.len
                  have HZ := DE.out.res
                  clear S1 S2 S3 DE
                  go_wp2_with (first | (refine guard_op (isLoad 27) ?_ ?_; (· rfl); refine load_has rfl 27 _ rfl b ?_ R2 24 hR2 _ Try.underlying27 rfl ?_ ?_; (· kernel_rfl); (· kernel_rfl)) | (refine guard_op (isStore 27) ?_ ?_; (· rfl); refine store_has rfl 27 _ _ rfl w.heap.size 0 R2 ?_ ?_ 24 hr HZ.there ?_ ?_; (· kernel_rfl); (· kernel_rfl); (· kernel_rfl)))
                  exact bodyPost_ret (res_has (P := Try.prog) rfl _ _ w.heap.size R2 24 _ (by kernel_rfl) T1.out Try.underlying27 rfl (by kernel_rfl)) rfl ⟨R2, rfl, hr, T2.out, T3.out⟩
                · (simp only [List.getElem_toArray, List.getElem_cons_zero, List.getElem_cons_succ, Region.wanted, if_true])
                  go_simp
                  refine hK.out _ _ trivial (fun hHeld => ?_)
                  clear hK K
                  obtain ⟨g, hg⟩ : ∃ g, g = w22.heap.size := ⟨_, rfl⟩
                  have RG := Lib.hid (rowI_new (fun _ => True) w22 #[.int .i64 (-1), .int .i64 6, .int .i64 4611686018427387904] 3 3 rfl (anyInts _ rfl))
                  have GL : Hid (w22.heap.size < (w22.alloc (.cells #[.int .i64 (-1), .int .i64 6, .int .i64 4611686018427387904] 3)).heap.size) := Lib.hid (by rw [size1]; exact Nat.lt_succ_self _)
                  have GC : Hid (w22.heap.size ≠ c) := Lib.hid (by have := Dw22.out.lt; omega)
                  have D23 := Lib.hid (Dw22.out.alloc (.cells #[.int .i64 (-1), .int .i64 6, .int .i64 4611686018427387904] 3))
                  have C23 := Lib.hid (Cur.alloc Cw22.out (.cells #[.int .i64 (-1), .int .i64 6, .int .i64 4611686018427387904] 3))
                  rw [← hg]
                  rw [← hg] at RG GL GC
                  clear Dw22 Cw22 hg
                  (refine wpAnyH_ready (rs := [3]) (by kernel_rfl) (by simp) ?_; refine AllReadyH.cons (o := _) rfl (fun K hK => ?_) AllReadyH.nil; (simp only [List.getElem_toArray, List.getElem_cons_zero, List.getElem_cons_succ, Region.wanted, if_true]))
                  go_simp
                  refine (pick_any c _ 4 _ C23.out (by omega) (by omega) (by omega)).mono ?_
                  rintro e w24 ⟨u, rfl, hu0, hu1, cc, mm⟩
                  have Dw24 := Lib.hid (D23.out.call cc mm hcw hbw)
                  have Cw24 := Lib.hid cc
                  have Mw24 := Lib.hid mm
                  clear cc mm C23 D23
                  obtain ⟨J, rfl⟩ : ∃ J : Nat, u = (J : Int) := ⟨u.toNat, by omega⟩
                  have hJ : J < 4 := by omega
                  have hJi : (J : Int) < 4 := by omega
                  have hJ0 : (0 : Int) ≤ (J : Int) := by omega
                  clear hu0 hu1
                  dsimp only
                  (try simp only [List.getElem_toArray, List.getElem_cons_zero, List.getElem_cons_succ, Act.put, List.setIfInBounds_toArray, List.set_cons_zero, List.set_cons_succ])
                  refine hK.out _ _ trivial (fun hHeld => ?_)
                  clear hK K
                  replace RG := Lib.hid (RG.out.moved Mw24.out GL.out GC.out)
                  (refine wpAnyH_ready (rs := [6]) (by kernel_rfl) (by simp) ?_; refine AllReadyH.cons (o := _) rfl (fun K hK => ?_) AllReadyH.nil; (simp only [List.getElem_toArray, List.getElem_cons_zero, List.getElem_cons_succ, Region.wanted, if_true]))
                  go_simp
                  refine (among_any (fun _ => True) c _ g 3 3 _ Cw24.out (by omega) (by omega) (by omega) RG.out GC.out).mono ?_
                  rintro e w25 ⟨am, rfl, _, cc, mm⟩
                  have Dw25 := Lib.hid (Dw24.out.call cc mm hcw hbw)
                  clear cc mm Cw24 Dw24
                  dsimp only
                  (try simp only [List.getElem_toArray, List.getElem_cons_zero, List.getElem_cons_succ, Act.put, List.setIfInBounds_toArray, List.set_cons_zero, List.set_cons_succ])
                  refine hK.out _ _ trivial (fun hHeld => ?_)
                  clear hK K
                  (refine wpAnyH_take (i := 9) (v := ?_) rfl (by kernel_rfl) (by kernel_rfl) (by kernel_rfl) (fun _ _ _ h => h) (Or.inl ⟨by rfl, ?_⟩) hHeld ?_; rotate_left; (· (intro w' hSw; go_simp; try with_reducible rfl)); (try simp only [List.getElem_toArray, List.getElem_cons_zero, List.getElem_cons_succ, Act.put, List.setIfInBounds_toArray, List.set_cons_zero, List.set_cons_succ]))
                  obtain ⟨z0, cc0, ff0⟩ := Dw25.out.cell (I * 4 + J) (by omega)
                  (refine wpAnyH_ready (rs := [10]) (by kernel_rfl) (by simp) ?_; refine AllReadyH.cons (o := _) rfl (fun K hK => ?_) AllReadyH.nil; (simp only [List.getElem_toArray, List.getElem_cons_zero, List.getElem_cons_succ, Region.wanted, if_true]))
                  go_simp
                  refine hK.out _ _ trivial (fun hHeld => ?_)
                  clear hK K
                  refine wpAnyH_done (by kernel_rfl) ?_ _
                  have DE := Lib.hid ((Dw25.out.set (I * 4 + J) am (by omega) hcw hbw).mono (L := k + 10000) (by omega))
                  clear Dw25 hHeld cc0 ff0
                  obtain ⟨R2, hR2⟩ := DE.out.rack
                  obtain ⟨S1, S2, S3⟩ := DE.out.done hR2.len hcw
                  have T1 := Lib.hid S1; have T2 := Lib.hid S2; have T3 := Lib.hid S3
                  have hr := hR2.len
                  have HZ := DE.out.res
                  clear S1 S2 S3 DE
                  go_wp2_with (first | (refine guard_op (isLoad 27) ?_ ?_; (· rfl); refine load_has rfl 27 _ rfl b ?_ R2 24 hR2 _ Try.underlying27 rfl ?_ ?_; (· kernel_rfl); (· kernel_rfl)) | (refine guard_op (isStore 27) ?_ ?_; (· rfl); refine store_has rfl 27 _ _ rfl w.heap.size 0 R2 ?_ ?_ 24 hr HZ.there ?_ ?_; (· kernel_rfl); (· kernel_rfl); (· kernel_rfl)))
                  exact bodyPost_ret (res_has (P := Try.prog) rfl _ _ w.heap.size R2 24 _ (by kernel_rfl) T1.out Try.underlying27 rfl (by kernel_rfl)) rfl ⟨R2, rfl, hr, T2.out, T3.out⟩
              · (simp only [List.getElem_toArray, List.getElem_cons_zero, List.getElem_cons_succ, Region.wanted, if_true])
                go_simp
                refine hK.out _ _ trivial (fun hHeld => ?_)
                clear hK K
                obtain ⟨g, hg⟩ : ∃ g, g = W5.heap.size := ⟨_, rfl⟩
                have RG := Lib.hid (rowI_new (fun _ => True) W5 #[.int .i64 (-1), .int .i64 6, .int .i64 4611686018427387904] 3 3 rfl (anyInts _ rfl))
                have GL : Hid (W5.heap.size < (W5.alloc (.cells #[.int .i64 (-1), .int .i64 6, .int .i64 4611686018427387904] 3)).heap.size) := Lib.hid (by rw [size1]; exact Nat.lt_succ_self _)
                have GC : Hid (W5.heap.size ≠ c) := Lib.hid (by have := D21.out.lt; omega)
                have D22 := Lib.hid (D21.out.alloc (.cells #[.int .i64 (-1), .int .i64 6, .int .i64 4611686018427387904] 3))
                have C22 := Lib.hid (Cur.alloc C21.out (.cells #[.int .i64 (-1), .int .i64 6, .int .i64 4611686018427387904] 3))
                rw [← hg]
                rw [← hg] at RG GL GC
                clear D21 C21 hg
                (refine wpAnyH_ready (rs := [1]) (by kernel_rfl) (by simp) ?_; refine AllReadyH.cons (o := _) rfl (fun K hK => ?_) AllReadyH.nil; (simp only [List.getElem_toArray, List.getElem_cons_zero, List.getElem_cons_succ, Region.wanted, if_true]))
                go_simp
                refine (pick_any c _ 6 _ C22.out (by omega) (by omega) (by omega)).mono ?_
                rintro e w23 ⟨u, rfl, hu0, hu1, cc, mm⟩
                have Dw23 := Lib.hid (D22.out.call cc mm hcw hbw)
                have Cw23 := Lib.hid cc
                have Mw23 := Lib.hid mm
                clear cc mm C22 D22
                obtain ⟨I, rfl⟩ : ∃ I : Nat, u = (I : Int) := ⟨u.toNat, by omega⟩
                have hI : I < 6 := by omega
                have hIi : (I : Int) < 6 := by omega
                have hI0 : (0 : Int) ≤ (I : Int) := by omega
                clear hu0 hu1
                dsimp only
                (try simp only [List.getElem_toArray, List.getElem_cons_zero, List.getElem_cons_succ, Act.put, List.setIfInBounds_toArray, List.set_cons_zero, List.set_cons_succ])
                refine hK.out _ _ trivial (fun hHeld => ?_)
                clear hK K
                replace RG := Lib.hid (RG.out.moved Mw23.out GL.out GC.out)
                replace GL := Lib.hid (Nat.lt_of_lt_of_le GL.out Mw23.out.size)
                (refine wpAnyH_take (i := 8) (v := ?_) rfl (by kernel_rfl) (by kernel_rfl) (by kernel_rfl) (fun _ _ _ h => h) (Or.inl ⟨by rfl, ?_⟩) hHeld ?_; rotate_left; (· (intro w' hSw; go_simp; try with_reducible rfl)); (try simp only [List.getElem_toArray, List.getElem_cons_zero, List.getElem_cons_succ, Act.put, List.setIfInBounds_toArray, List.set_cons_zero, List.set_cons_succ]))
                (refine wpAnyH_ready (rs := [3]) (by kernel_rfl) (by simp) ?_; refine AllReadyH.cons (o := _) rfl (fun K hK => ?_) AllReadyH.nil; (simp only [List.getElem_toArray, List.getElem_cons_zero, List.getElem_cons_succ, Region.wanted, if_true]))
                go_simp
                refine (pick_any c _ 4 _ Cw23.out (by omega) (by omega) (by omega)).mono ?_
                rintro e w24 ⟨u, rfl, hu0, hu1, cc, mm⟩
                have Dw24 := Lib.hid (Dw23.out.call cc mm hcw hbw)
                have Cw24 := Lib.hid cc
                have Mw24 := Lib.hid mm
                clear cc mm Cw23 Dw23
                obtain ⟨J, rfl⟩ : ∃ J : Nat, u = (J : Int) := ⟨u.toNat, by omega⟩
                have hJ : J < 4 := by omega
                have hJi : (J : Int) < 4 := by omega
                have hJ0 : (0 : Int) ≤ (J : Int) := by omega
                clear hu0 hu1
                dsimp only
                (try simp only [List.getElem_toArray, List.getElem_cons_zero, List.getElem_cons_succ, Act.put, List.setIfInBounds_toArray, List.set_cons_zero, List.set_cons_succ])
                refine hK.out _ _ trivial (fun hHeld => ?_)
                clear hK K
                replace RG := Lib.hid (RG.out.moved Mw24.out GL.out GC.out)
                (refine wpAnyH_ready (rs := [6]) (by kernel_rfl) (by simp) ?_; refine AllReadyH.cons (o := _) rfl (fun K hK => ?_) AllReadyH.nil; (simp only [List.getElem_toArray, List.getElem_cons_zero, List.getElem_cons_succ, Region.wanted, if_true]))
                go_simp
                refine (among_any (fun _ => True) c _ g 3 3 _ Cw24.out (by omega) (by omega) (by omega) RG.out GC.out).mono ?_
                rintro e w25 ⟨am, rfl, _, cc, mm⟩
                have Dw25 := Lib.hid (Dw24.out.call cc mm hcw hbw)
                clear cc mm Cw24 Dw24
                dsimp only
                (try simp only [List.getElem_toArray, List.getElem_cons_zero, List.getElem_cons_succ, Act.put, List.setIfInBounds_toArray, List.set_cons_zero, List.set_cons_succ])
                refine hK.out _ _ trivial (fun hHeld => ?_)
                clear hK K
                (refine wpAnyH_take (i := 9) (v := ?_) rfl (by kernel_rfl) (by kernel_rfl) (by kernel_rfl) (fun _ _ _ h => h) (Or.inl ⟨by rfl, ?_⟩) hHeld ?_; rotate_left; (· (intro w' hSw; go_simp; try with_reducible rfl)); (try simp only [List.getElem_toArray, List.getElem_cons_zero, List.getElem_cons_succ, Act.put, List.setIfInBounds_toArray, List.set_cons_zero, List.set_cons_succ]))
                obtain ⟨z0, cc0, ff0⟩ := Dw25.out.cell (I * 4 + J) (by omega)
                (refine wpAnyH_ready (rs := [10]) (by kernel_rfl) (by simp) ?_; refine AllReadyH.cons (o := _) rfl (fun K hK => ?_) AllReadyH.nil; (simp only [List.getElem_toArray, List.getElem_cons_zero, List.getElem_cons_succ, Region.wanted, if_true]))
                go_simp
                refine hK.out _ _ trivial (fun hHeld => ?_)
                clear hK K
                refine wpAnyH_done (by kernel_rfl) ?_ _
                have DE := Lib.hid ((Dw25.out.set (I * 4 + J) am (by omega) hcw hbw).mono (L := k + 10000) (by omega))
                clear Dw25 hHeld cc0 ff0
                obtain ⟨R2, hR2⟩ := DE.out.rack
                obtain ⟨S1, S2, S3⟩ := DE.out.done hR2.len hcw
                have T1 := Lib.hid S1; have T2 := Lib.hid S2; have T3 := Lib.hid S3
                have hr := hR2.len
                have HZ := DE.out.res
                clear S1 S2 S3 DE
                go_wp2_with (first | (refine guard_op (isLoad 27) ?_ ?_; (· rfl); refine load_has rfl 27 _ rfl b ?_ R2 24 hR2 _ Try.underlying27 rfl ?_ ?_; (· kernel_rfl); (· kernel_rfl)) | (refine guard_op (isStore 27) ?_ ?_; (· rfl); refine store_has rfl 27 _ _ rfl w.heap.size 0 R2 ?_ ?_ 24 hr HZ.there ?_ ?_; (· kernel_rfl); (· kernel_rfl); (· kernel_rfl)))
                exact bodyPost_ret (res_has (P := Try.prog) rfl _ _ w.heap.size R2 24 _ (by kernel_rfl) T1.out Try.underlying27 rfl (by kernel_rfl)) rfl ⟨R2, rfl, hr, T2.out, T3.out⟩
            · have q0' : (sw == 0) = false := by simpa using q0
              by_cases q1 : sw = 1
              · subst q1
                go_wp2_with fail
                refine (pick_any c _ 6 _ C20.out (by omega) (by omega) (by omega)).mono ?_
                rintro e w21 ⟨u, rfl, hu0, hu1, c21, m21⟩
                have D21 := Lib.hid (D20.out.call c21 m21 hcw hbw)
                clear D20 C20 c21 m21
                obtain ⟨I, rfl⟩ : ∃ I : Nat, u = (I : Int) := ⟨u.toNat, by omega⟩
                have hI : I < 6 := by omega
                obtain ⟨R1, hR1⟩ := D21.out.rack
                have t1 := Lib.hid (hR1.holds.thereSub (I * 4) 4 (by rw [ints_len, hR1.len]; omega))
                have D22 := Lib.hid ((D21.out.putTub I hI [0, 1, 0, 0] rfl hcw hbw).mono (L := k + 10000) (by omega))
                clear hR1 D21
                obtain ⟨R2, hR2⟩ := D22.out.rack
                obtain ⟨S1, S2, S3⟩ := D22.out.done hR2.len hcw
                have T1 := Lib.hid S1; have T2 := Lib.hid S2; have T3 := Lib.hid S3
                have hr := hR2.len
                have HZ := D22.out.res
                clear S1 S2 S3 D22
                go_wp2_with (first | (refine guard_op (isStore 24) ?_ ?_; (· rfl); refine store_has rfl 24 _ _ rfl b (I * 4) [0, 1, 0, 0] ?_ ?_ 4 rfl t1.out ?_ ?_; (· kernel_rfl); (· kernel_rfl); (· kernel_rfl)) | (refine guard_op (isLoad 27) ?_ ?_; (· rfl); refine load_has rfl 27 _ rfl b ?_ R2 24 hR2 _ Try.underlying27 rfl ?_ ?_; (· kernel_rfl); (· kernel_rfl)) | (refine guard_op (isStore 27) ?_ ?_; (· rfl); refine store_has rfl 27 _ _ rfl w.heap.size 0 R2 ?_ ?_ 24 hr HZ.there ?_ ?_; (· kernel_rfl); (· kernel_rfl); (· kernel_rfl)))
                exact bodyPost_ret (res_has (P := Try.prog) rfl _ _ w.heap.size R2 24 _ (by kernel_rfl) T1.out Try.underlying27 rfl (by kernel_rfl)) rfl ⟨R2, rfl, hr, T2.out, T3.out⟩
              · have q1' : (sw == 1) = false := by simpa using q1
                by_cases q2 : sw = 2
                · subst q2
                  obtain ⟨S1, S2, S3⟩ := (D20.out.mono (L := k + 10000) (by omega)).done (ns := z24) rfl hcw
                  have T1 := Lib.hid S1; have T2 := Lib.hid S2; have T3 := Lib.hid S3
                  have HZ := D20.out.res
                  clear S1 S2 S3 D20 C20
                  go_wp2_with (first | (refine guard_op (isStore 27) ?_ ?_; (· rfl); refine store_has rfl 27 _ _ rfl w.heap.size 0 z24 ?_ ?_ 24 rfl HZ.there ?_ ?_; (· kernel_rfl); (· kernel_rfl); (· kernel_rfl)))
                  exact bodyPost_ret (res_has (P := Try.prog) rfl _ _ w.heap.size z24 24 _ (by kernel_rfl) T1.out Try.underlying27 rfl (by kernel_rfl)) rfl ⟨z24, rfl, rfl, T2.out, T3.out⟩
                · have q2' : (sw == 2) = false := by simpa using q2
                  obtain ⟨R2, hR2⟩ := D20.out.rack
                  obtain ⟨S1, S2, S3⟩ := (D20.out.mono (L := k + 10000) (by omega)).done hR2.len hcw
                  have T1 := Lib.hid S1; have T2 := Lib.hid S2; have T3 := Lib.hid S3
                  have hr := hR2.len
                  have HZ := D20.out.res
                  clear S1 S2 S3 D20 C20 q0 q1 q2
                  go_wp2_with (first | (refine guard_op (isLoad 27) ?_ ?_; (· rfl); refine load_has rfl 27 _ rfl b ?_ R2 24 hR2 _ Try.underlying27 rfl ?_ ?_; (· kernel_rfl); (· kernel_rfl)) | (refine guard_op (isStore 27) ?_ ?_; (· rfl); refine store_has rfl 27 _ _ rfl w.heap.size 0 R2 ?_ ?_ 24 hr HZ.there ?_ ?_; (· kernel_rfl); (· kernel_rfl); (· kernel_rfl)))
                  exact bodyPost_ret (res_has (P := Try.prog) rfl _ _ w.heap.size R2 24 _ (by kernel_rfl) T1.out Try.underlying27 rfl (by kernel_rfl)) rfl ⟨R2, rfl, hr, T2.out, T3.out⟩
end Go.Proofs.Ytnldnjnnjfbhnab.base
end
