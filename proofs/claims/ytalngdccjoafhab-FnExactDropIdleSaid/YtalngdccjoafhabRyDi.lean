/-
  A replay without its idle pours, walked on both sides.
-/
import Derived.Test.YtalngdccjoafhabRyEZ
import Derived.Test.YtalngdccjoafhabGmW
namespace Go.Proofs.Ytalngdccjoafhab.base
open Go.ChangeShapes Go.WideShapes Go.ChangeAt Go.RowKit
set_option linter.unusedVariables false
set_option linter.unusedSimpArgs false

/-- The rack behind the pours so far, and those that are made. -/
def diS (ns fs : List Int) : Nat → List Int × List Int
  | 0 => (ns, [])
  | k + 1 => if tbOk (diS ns fs k).1 (fs.getD (k * 2) 0) (fs.getD (k * 2 + 1) 0) = true then (pourR (diS ns fs k).1 (fs.getD (k * 2) 0) (fs.getD (k * 2 + 1) 0), (diS ns fs k).2 ++ [fs.getD (k * 2) 0, fs.getD (k * 2 + 1) 0]) else diS ns fs k
def diR (ns fs : List Int) (k : Nat) : List Int := (diS ns fs k).1
def diF (ns fs : List Int) (k : Nat) : List Int := (diS ns fs k).2
def diFA (ns fs : List Int) (n : Nat) : List Int := diF ns fs n
def diNA (ns fs : List Int) (n : Nat) : Nat := (diF ns fs n).length / 2
theorem di_yes {ns fs : List Int} {k : Nat} (h : tbOk (diR ns fs k) (fs.getD (k * 2) 0) (fs.getD (k * 2 + 1) 0) = true) : diR ns fs (k + 1) = pourR (diR ns fs k) (fs.getD (k * 2) 0) (fs.getD (k * 2 + 1) 0) ∧ diF ns fs (k + 1) = diF ns fs k ++ [fs.getD (k * 2) 0, fs.getD (k * 2 + 1) 0] := by
  unfold diR diF at *
  rw [diS, if_pos h]
  exact ⟨rfl, rfl⟩
theorem di_no {ns fs : List Int} {k : Nat} (h : tbOk (diR ns fs k) (fs.getD (k * 2) 0) (fs.getD (k * 2 + 1) 0) = false) : diR ns fs (k + 1) = diR ns fs k ∧ diF ns fs (k + 1) = diF ns fs k := by
  unfold diR diF at *
  rw [diS, if_neg (by rw [h]; simp)]
  exact ⟨rfl, rfl⟩
theorem tb_pour {ns : List Int} {x y : Int} (h : tbOk ns x y = true) : pourOk ns x y = true := by unfold tbOk at h; exact (Bool.and_eq_true_iff.1 h).1
theorem tb_row {ns : List Int} {x y : Int} (h : tbOk ns x y = true) : tbR ns x y = x :: y :: pourR ns x y := by unfold tbR; rw [if_pos h]
theorem di_step (ns fs : List Int) (k : Nat) : (tbOk (diR ns fs k) (fs.getD (k * 2) 0) (fs.getD (k * 2 + 1) 0) = true ∧ diR ns fs (k + 1) = pourR (diR ns fs k) (fs.getD (k * 2) 0) (fs.getD (k * 2 + 1) 0) ∧ diF ns fs (k + 1) = diF ns fs k ++ [fs.getD (k * 2) 0, fs.getD (k * 2 + 1) 0]) ∨ (diR ns fs (k + 1) = diR ns fs k ∧ diF ns fs (k + 1) = diF ns fs k) := by
  cases h : tbOk (diR ns fs k) (fs.getD (k * 2) 0) (fs.getD (k * 2 + 1) 0) with
  | true => exact .inl ⟨rfl, di_yes h⟩
  | false => exact .inr (di_no h)
theorem di_len {ns : List Int} (h : ns.length = 24) (fs : List Int) : ∀ k, (diR ns fs k).length = 24
  | 0 => h
  | k + 1 => by
    rcases di_step ns fs k with ⟨_, h1, _⟩ | ⟨h1, _⟩
    · rw [h1]; exact pourR_len (di_len h fs k) _ _
    · rw [h1]; exact di_len h fs k
theorem di_valid {ns : List Int} (h : ns.length = 24) (hv : vR ns = true) (fs : List Int) : ∀ k, vR (diR ns fs k) = true
  | 0 => hv
  | k + 1 => by
    rcases di_step ns fs k with ⟨h0, h1, _⟩ | ⟨h1, _⟩
    · rw [h1]; exact (pour_facts (di_len h fs k) (tb_pour h0)).valid
    · rw [h1]; exact di_valid h hv fs k
theorem di_small (ns fs : List Int) : ∀ k, (diF ns fs k).length ≤ 2 * k
  | 0 => Nat.le_refl _
  | k + 1 => by
    have := di_small ns fs k
    rcases di_step ns fs k with ⟨_, _, h1⟩ | ⟨_, h1⟩
    · rw [h1, List.length_append]; simp; omega
    · rw [h1]; omega
theorem diN_le (ns fs : List Int) (n : Nat) : orN (rpOk ns fs n) (diNA ns fs n) ≤ 60 := by
  cases h : rpOk ns fs n with
  | false => exact Nat.zero_le _
  | true =>
    have h1 := rp_le h
    have h2 := di_small ns fs n
    unfold orN diNA
    rw [if_pos rfl]; omega
theorem slice1Di {P : Program} {ops : Array Oper} {rest : List Oper} {o : Oper} {a : Act} {w : World} {Q : Exit → Act → World → Prop} (hg : o.guard = none) (tt t : TypeId) (x : Operand) (ho : o.op = .buildSlice tt 1 #[(0, x)]) (ht : P.underlying tt = some (.slice t)) (hi : (P.info? t).map (fun i => (i.zero.map fun z => z.cells.size, i.size, i.bytes)) = some (some 2, 2, 16))
    (ns : List Int) (hx : a.eval x = .agg (ints ns).toArray) (hl : ns.length = 2) (h : wpList P ops Q rest (a.put o.dst (.slice (some ⟨w.heap.size, 0, none⟩) 1 1)) (w.alloc (.cells (ints ns).toArray t))) : wpList P ops Q (o :: rest) a w :=
  wpList_slice1 hg tt t x ho 2 16 ht hi (by omega) (by omega) ns hx hl h
theorem run_slice0 {P : Program} (w : World) (t e : TypeId) (ie : TypeInfo) (z : Value) (hu : P.underlying t = some (.slice e)) (hie : P.info? e = some ie) (hz : ie.zero = some z) :
    (Instr.buildSlice t 0 #[]).run P w = .ok (.slice (some ⟨w.heap.size, 0, none⟩) 0 0) (w.alloc (.cells #[] e)) := by
  simp [Instr.buildSlice, run_underlying hu, sizeOf, typeInfo, zeroValue, hie, hz, newRow, Instr.fill]
  have e2 : ∀ f : Nat → Value, Array.map f (Array.range 0) = #[] := fun f => Array.eq_empty_of_size_eq_zero (by simp)
  rw [e2]
theorem slice0Di {P : Program} {ops : Array Oper} {rest : List Oper} {o : Oper} {a : Act} {w : World} {Q : Exit → Act → World → Prop} (hg : o.guard = none) (tt t : TypeId) (ho : o.op = .buildSlice tt 0 #[]) (ht : P.underlying tt = some (.slice t)) (hi : (P.info? t).map (fun i => (i.zero.map fun z => z.cells.size, i.size, i.bytes)) = some (some 2, 2, 16))
    (h : wpList P ops Q rest (a.put o.dst (.slice (some ⟨w.heap.size, 0, none⟩) 0 0)) (w.alloc (.cells #[] t))) : wpList P ops Q (o :: rest) a w :=
  wpList_plain hg fun _ hK => by
    obtain ⟨i, z, h0, h1, h2, h3, h4⟩ := info_of hi
    unfold Oper.wp execOp
    simp only [ho, Sem.run_bind, List.map_toArray, List.map_nil, run_slice0 w tt t i z ht h0 h1, Result.andThen_ok]
    exact hK _ _ h
theorem Has.grownDi {w w' : World} {c : Nat} {ns : List Int} {m : Nat} (H : Has w c ns m) {r : Option Nat} (hg : w.grownBy w' r) (hr : some c ≠ r) : Has w' c ns m := by
  have hb := hg.block c H.lt hr
  refine ⟨⟨fun j v hv => (World.cell?_of_block (a := ⟨c, 0 + j, Option.none⟩) hb).trans (H.holds.range j v hv), fun j hj => ?_⟩, H.len, H.pos⟩
  have := H.holds.there j hj
  rw [World.cell?_of_block (w' := w') (w := w) (a := ⟨c, 0 + j, Option.none⟩) hb, World.frozen?_of_block (w' := w') (w := w) (a := ⟨c, 0 + j, Option.none⟩) hb]
  exact this
theorem Has.afterDi {w : World} {c : Nat} {ns : List Int} {m : Nat} (H : Has w c ns m) {q : Nat} (k : Nat) (u : Value) (h : c ≠ q) : Has (w.setCell ⟨q, k, Option.none⟩ u) c ns m := H.grownDi (grownPutsY w q k [u]) (fun e => h (Option.some.inj e))
theorem Prs.allocDi {w : World} {b N : Nat} {v : Value} {fs : List Int} (h : Prs w b v N fs) (o : Obj) : Prs (w.alloc o) b v N fs := World.ownsRow.alloc h o
theorem Prs.belowDi {w w' : World} {b N : Nat} {v : Value} {fs : List Int} (h : Prs w b v N fs) (k : Below w.heap.size w w') : Prs w' b v N fs :=
  World.ownsRow.kept (row := Option.none) h ⟨k.os, k.tape, k.output, k.size, fun j hj _ => k.block j hj⟩ (by cases v.ownBlock <;> simp)

set_option maxHeartbeats 3200000 in
set_option maxRecDepth 100000 in
theorem implDrop (ns fs : List Int) (v : Value) (n b : Nat) (w : World) (h24 : ns.length = 24) (hn : n ≤ 1048576) (h : Rw w b v n fs) :
    Calls Try.prog 12 #[rpV ns v] w (RepPost (rpOk ns fs n) ns (diNA ns fs n) (diFA ns fs n) w) := by
  obtain ⟨a, cap, rfl⟩ := h.shape
  have AP := Lib.hid (fun hn0 k hk => (h.ownlt hn0 k hk).2)
  have RY := (Ry.box (v := .slice a n cap) w 32 h24).alloc (.cells z25.toArray 32)
  have Z := (Ry.zero (w.alloc (.cells (rpC ns (.slice a n cap)).toArray 32)) 32).at (size1 _ _)
  have HB := Lib.hid (((kept_refl w).alloc (.cells (rpC ns (.slice a n cap)).toArray 32)).alloc (.cells z25.toArray 32))
  have HR := Lib.hid ((h.alloc (.cells (rpC ns (.slice a n cap)).toArray 32)).alloc (.cells z25.toArray 32))
  have hsz : ((w.alloc (.cells (rpC ns (.slice a n cap)).toArray 32)).alloc (.cells z25.toArray 32)).heap.size = w.heap.size + 2 := by simp
  clear h
  unfold rpV
  go_enter Try.func12, Try.ntmps12
  go_upto_region 1 with fail
  try rw [cells25C]
  generalize ((w.alloc (.cells (rpC ns (.slice a n cap)).toArray 32)).alloc (.cells z25.toArray 32)) = W at *
  have hW := hsz
  clear hsz
  go_wp2_with (refine guardY (isLdY 32) ?_ ?_; (· rfl); refine load_ry rfl 32 _ rfl w.heap.size rfl _ _ _ RY _ Try.underlying32 rfl ?_ ?_; (· kernel_rfl))
  refine (implIsReplay ns fs (.slice a n cap) n b _ h24 hn HR.out).mono ?_
  rintro e w1 ⟨rfl, b1⟩
  have hws : w.heap.size + 2 ≤ w1.heap.size := by have := b1.size; omega
  replace RY := RY.below b1
  replace Z := Z.below b1
  replace HB := Lib.hid (HB.out.call b1)
  replace HR := Lib.hid (HR.out.below b1)
  clear b1 hW
  cases hok : rpOk ns fs n with
  | false =>
    have E := Lib.hid hok
    have S1 := Lib.hid (Z.putAll z24 (.slice none 0 0) rfl)
    have S2 := Lib.hid (HB.out.puts (b := w.heap.size + 1) (by omega) 0 (rpC z24 (.slice none 0 0)))
    clear hok
    go_wp2_with (first | (refine guardY (isBdY 32) ?_ ?_; (· rfl); refine build_law rfl 32 rfl _ buildRpZ ?_) | (refine guardY (isStY 32) ?_ ?_; (· rfl); refine store_ry rfl 32 _ _ rfl (w.heap.size + 1) rfl z24 (.slice none 0 0) rfl _ _ _ Z rfl rfl ?_ ?_; (· kernel_rfl)))
    exact bodyPost_ret (res_ry1 rfl _ _ (w.heap.size + 1) z24 _ _ _ (.bool false) rfl rfl S1.out Try.underlying32 rfl (by kernel_rfl)) rfl ⟨.slice none 0 0, by rw [E.out]; rfl, by rw [E.out]; exact Rw.nil _ _, S2.out⟩
  | true =>
    have E := Lib.hid hok
    have n60 := rp_le hok
    have HL := Lib.hid (di_len h24 fs)
    have H24 := Lib.hid h24
    clear hok
    have P0 := prs_none w1 w1.heap.size (Nat.le_refl _)
    have C0 := (Ry.box (v := .slice (some ⟨w1.heap.size, 0, none⟩) 0 0) (w1.alloc (.cells #[] 51)) 32 h24).at (size1 _ _)
    have RY0 := RY
    replace RY := (RY.alloc (.cells #[] 51)).alloc (.cells (rpC ns (.slice (some ⟨w1.heap.size, 0, none⟩) 0 0)).toArray 32)
    replace Z := (Z.alloc (.cells #[] 51)).alloc (.cells (rpC ns (.slice (some ⟨w1.heap.size, 0, none⟩) 0 0)).toArray 32)
    replace HB := Lib.hid ((HB.out.alloc (.cells #[] 51)).alloc (.cells (rpC ns (.slice (some ⟨w1.heap.size, 0, none⟩) 0 0)).toArray 32))
    replace HR := Lib.hid ((HR.out.alloc (.cells #[] 51)).alloc (.cells (rpC ns (.slice (some ⟨w1.heap.size, 0, none⟩) 0 0)).toArray 32))
    have P1 : Hid (Prs ((w1.alloc (.cells #[] 51)).alloc (.cells (rpC ns (.slice (some ⟨w1.heap.size, 0, none⟩) 0 0)).toArray 32)) w1.heap.size (.slice (some ⟨w1.heap.size, 0, none⟩) 0 0) 0 []) := Lib.hid (World.ownsRow.alloc P0 _)
    have hs2 : ((w1.alloc (.cells #[] 51)).alloc (.cells (rpC ns (.slice (some ⟨w1.heap.size, 0, none⟩) 0 0)).toArray 32)).heap.size = w1.heap.size + 2 := by simp
    go_upto_region 4 with (first | (refine slice0Di rfl 26 51 rfl Try.underlying26 (by kernel_rfl) ?_) | (refine guardY (isLdY 30) ?_ ?_; (· rfl); refine load_start rfl 30 _ rfl w.heap.size rfl _ _ _ RY0 _ Try.underlying30 rfl ?_ ?_; (· kernel_rfl)) | (refine guardY (isBdY 32) ?_ ?_; (· rfl); refine build_rp rfl 32 _ _ rfl _ _ _ rfl rfl (buildRp ns _ 0 0 h24) ?_) | (refine guardY (isStY 32) ?_ ?_; (· rfl); refine store_newry rfl 32 _ _ rfl _ _ _ rfl (w1.heap.size + 1) (size1 _ _).symm ns (.slice (some ⟨w1.heap.size, 0, none⟩) 0 0) rfl rfl rfl H24.out rfl ?_ ?_; (· kernel_rfl)))
    clear P0 RY0
    obtain ⟨B, hB⟩ : ∃ s, w1.heap.size = s := ⟨_, rfl⟩
    rw [hB] at RY Z HB HR P1 C0 hs2 hws ⊢
    generalize (w1.alloc (.cells #[] 51)).alloc (.cells (rpC ns (.slice (some ⟨B, 0, none⟩) 0 0)).toArray 32) = W2 at *
    clear hB
    have D0 := (Has.box W2 30 h24 (by omega)).at hs2
    have hs3 := size1 W2 (.cells (ints ns).toArray 30)
    have RY1 := RY.alloc (.cells (ints ns).toArray 30)
    replace Z := Z.alloc (.cells (ints ns).toArray 30)
    replace C0 := C0.alloc (.cells (ints ns).toArray 30)
    replace P1 := Lib.hid (Prs.allocDi P1.out (.cells (ints ns).toArray 30))
    replace HB := Lib.hid (HB.out.alloc (.cells (ints ns).toArray 30))
    replace HR := Lib.hid (HR.out.alloc (.cells (ints ns).toArray 30))
    go_upto_region 5 with (first | (refine guardY (isLdY 30) ?_ ?_; (· rfl); refine load_start rfl 30 _ rfl w.heap.size rfl _ _ _ RY _ Try.underlying30 rfl ?_ ?_; (· kernel_rfl)) | (refine guardY (isStY 30) ?_ ?_; (· rfl); refine store_new rfl 30 _ _ rfl _ _ _ rfl (B + 2) hs2.symm _ rfl rfl ?_ ?_ ?_; (· (first | assumption | rfl)); (· kernel_rfl)))
    clear RY
    generalize W2.alloc (.cells (ints ns).toArray 30) = W3 at *
    have c24 := RY1.pours
    have hsB : w.heap.size + 2 ≤ B := hws
    have NE0 : Hid (∀ z, (Value.slice (some ⟨B, 0, none⟩) 0 0).ownBlock = some z → z ≠ B + 1 ∧ z ≠ B + 2) := Lib.hid (fun z hz => by have := Option.some.inj (show some B = some z from hz); omega)
    clear hs2 hs3 hws
    go_wp2_with fail
    clear c24
    go_loopw [23] (fun i wr => ∃ (k N : Nat) (va : Option Addr) (vc : Nat), k ≤ n ∧ N ≤ k ∧ i = .int .i64 k ∧ Ry wr (B + 1) ns (.slice va N vc) 32 ∧ Has wr (B + 2) (diR ns fs k) 24 ∧ Hid (Prs wr B (.slice va N vc) N (diF ns fs k)) ∧ Hid (∀ z, (Value.slice va N vc).ownBlock = some z → z ≠ B + 1 ∧ z ≠ B + 2) ∧ Ry wr (w.heap.size + 1) z24 (.slice none 0 0) 32 ∧ Hid (Rw wr b (.slice a n cap) n fs) ∧ Hid (Kept w wr)) (fun i _ => n - (intOf i).toNat)
    case atStart => exact ⟨0, 0, some ⟨B, 0, none⟩, 0, by omega, by omega, rfl, C0, D0, P1, NE0, Z, HR, HB⟩
    case round =>
      clear C0 D0 P1 NE0 Z HR HB
      obtain ⟨k, N, va, vc, hk, hN, rfl, C, D, GP, NE, Z, GR, GB⟩ := hrel
      by_cases hlt : k < n
      · have ki : (k : Int) < ((n : Nat) : Int) := by omega
        have k0 : (0 : Int) ≤ (k : Int) := by omega
        obtain ⟨g, cap2, hv', _, hgl⟩ := GR.out.form (by omega)
        injection hv' with ha _ hcap
        subst ha
        subst hcap
        have hgs : g < w.heap.size := AP.out (by omega) g rfl
        have hR := HL.out k
        have r0 := GR.out.cell (k * 2) (by omega)
        have r1 := GR.out.cell (k * 2 + 1) (by omega)
        have YES := Lib.hid (di_yes (ns := ns) (fs := fs) (k := k))
        have NO := Lib.hid (di_no (ns := ns) (fs := fs) (k := k))
        generalize fs.getD (k * 2) 0 = x at *
        generalize fs.getD (k * 2 + 1) 0 = y at *
        obtain ⟨R, hRR⟩ : ∃ R, diR ns fs k = R := ⟨_, rfl⟩
        obtain ⟨F, hFF⟩ : ∃ F, diF ns fs k = F := ⟨_, rfl⟩
        rw [hRR] at D hR YES NO
        rw [hFF] at GP YES NO
        clear hRR hFF
        have RG := Lib.hid (range_two r0 r1)
        have hb7 := C.lt
        have B7 := Has.box (ns := [x, y]) (n := 2) wr 51 rfl (by omega)
        replace C := C.alloc (.cells (ints [x, y]).toArray 51)
        replace D := D.alloc (.cells (ints [x, y]).toArray 51)
        replace GP := Lib.hid (Prs.allocDi GP.out (.cells (ints [x, y]).toArray 51))
        replace Z := Z.alloc (.cells (ints [x, y]).toArray 51)
        replace GR := Lib.hid (GR.out.alloc (.cells (ints [x, y]).toArray 51))
        replace GB := Lib.hid (GB.out.alloc (.cells (ints [x, y]).toArray 51))
        clear r0 r1
        go_upto_region 8 with (first | (refine wpList_load_mid rfl 51 _ rfl g (k * 2) rfl (ints [x, y]) _ RG.out Try.underlying51 rfl (by kernel_rfl) ?_) | (refine guardY (isStY 51) ?_ ?_; (· rfl); (refine store_new rfl 51 _ _ rfl _ _ _ rfl _ rfl _ rfl rfl ?_ ?_ ?_; (· (first | assumption | rfl)); (· kernel_rfl))))
        obtain ⟨b7, hb⟩ : ∃ s, wr.heap.size = s := ⟨_, rfl⟩
        rw [hb] at B7 hb7 ⊢
        generalize wr.alloc (.cells (ints [x, y]).toArray 51) = W4 at *
        clear hb RG
        go_wp2_with (first | (refine guardY (isLdY 51) ?_ ?_; (· rfl); refine load_has rfl 51 _ rfl b7 rfl [x, y] 2 B7 _ Try.underlying51 rfl ?_ ?_; (· kernel_rfl)) | (refine guardY (isLdY 30) ?_ ?_; (· rfl); refine load_has rfl 30 _ rfl (B + 2) rfl R 24 D _ Try.underlying30 rfl ?_ ?_; (· kernel_rfl)))
        refine (turnBy_any R x y _ hR).mono ?_
        rintro e w5 ⟨rfl, b5⟩
        rw [row_ints]
        replace B7 := B7.below b5
        replace C := C.below b5
        replace D := D.below b5
        replace GP := Lib.hid (GP.out.belowDi b5)
        replace Z := Z.below b5
        replace GR := Lib.hid (GR.out.below b5)
        replace GB := Lib.hid (GB.out.call b5)
        clear b5
        have hd5 : B + 2 < w5.heap.size := D.lt
        have GP5 := GP
        have T8 := Has.box w5 59 (tbR_len hR x y) (by omega)
        replace B7 := B7.alloc (.cells (ints (tbR R x y)).toArray 59)
        replace C := C.alloc (.cells (ints (tbR R x y)).toArray 59)
        replace D := D.alloc (.cells (ints (tbR R x y)).toArray 59)
        replace GP := Lib.hid (Prs.allocDi GP.out (.cells (ints (tbR R x y)).toArray 59))
        replace Z := Z.alloc (.cells (ints (tbR R x y)).toArray 59)
        replace GR := Lib.hid (GR.out.alloc (.cells (ints (tbR R x y)).toArray 59))
        replace GB := Lib.hid (GB.out.alloc (.cells (ints (tbR R x y)).toArray 59))
        cases htb : tbOk R x y with
        | false =>
          obtain ⟨e1, e2⟩ := NO.out htb
          have E1 := Lib.hid e1
          have E2 := Lib.hid e2
          clear htb YES NO e1 e2 T8 GP5
          go_wp2_with (refine guardY (isStY 59) ?_ ?_; (· rfl); refine store_new rfl 59 _ _ rfl _ _ _ rfl _ rfl (tbR R x y) rfl rfl ?_ ?_ ?_; (· exact tbR_len hR x y); (· kernel_rfl))
          go_roundw
          case rel => exact ⟨k + 1, N, va, vc, by omega, by omega, by go_num, C, by rw [E1.out]; exact D, by rw [E2.out]; exact GP, NE, Z, GR, GB⟩
          case measure => simp [intOf]; omega
        | true =>
          obtain ⟨e1, e2⟩ := YES.out htb
          have E1 := Lib.hid e1
          have E2 := Lib.hid e2
          have ET := tb_row htb
          have L2 := pourR_len hR x y
          obtain ⟨R2, hR2⟩ : ∃ R2, pourR R x y = R2 := ⟨_, rfl⟩
          rw [hR2] at E1 ET L2
          have LT := Lib.hid (tbR_len hR x y)
          obtain ⟨TT, hTT⟩ : ∃ TT, tbR R x y = TT := ⟨_, rfl⟩
          rw [hTT] at ET T8 B7 C D GP Z GR GB LT ⊢
          have RT := Lib.hid (fun W (h : Has W w5.heap.size TT 26) => show W.rangeAt w5.heap.size 2 (ints R2) by
            have h2 := h.holds.sub 2 24
            rw [ET] at h2
            have e3 : ((x :: y :: R2).drop 2).take 24 = R2 := by rw [List.drop_succ_cons, List.drop_succ_cons, List.drop_zero]; exact List.take_of_length_le (by omega)
            rw [e3] at h2; exact h2)
          clear htb YES NO e1 e2 ET hTT hR2
          obtain ⟨b8, hb8⟩ : ∃ s, w5.heap.size = s := ⟨_, rfl⟩
          rw [hb8] at T8 RT
          have hW5 : (w5.alloc (.cells (ints TT).toArray 59)).heap.size = b8 + 1 := by rw [size1, hb8]
          have hb85 := hb8
          have hb82 : B + 2 < b8 := by omega
          have hb8n : ∀ z, (Value.slice va N vc).ownBlock = some z → z ≠ b8 := fun z hz => by have := (World.ownsRow.lt GP5.out z hz).2; omega
          go_upto_region 9 with (refine guardY (isStY 59) ?_ ?_; (· rfl); refine store_new rfl 59 _ _ rfl _ _ _ rfl b8 hb8.symm TT rfl rfl ?_ ?_ ?_; (· exact LT.out); (· kernel_rfl))
          generalize w5.alloc (.cells (ints TT).toArray 59) = W6 at *
          clear hb8 hb85 GP5
          have c24 := C.pours
          have C2 := C.alloc (.cells (ints [x, y]).toArray 51)
          have f24 := C2.free 24
          have Q2 := Lib.hid (Prs.allocDi GP.out (.cells (ints [x, y]).toArray 51))
          have hcs : some (B + 1) ≠ (Value.slice va N vc).ownBlock := fun e => (NE.out _ e.symm).1 rfl
          have hds : some (B + 2) ≠ (Value.slice va N vc).ownBlock := fun e => (NE.out _ e.symm).2 rfl
          have own0 := Lib.hid (fun z hz => (World.ownsRow.lt GP.out z hz))
          have b8lt := T8.lt
          have clt := C.lt
          have dlt := D.lt
          have hBz : B + 2 < b8 := hb82
          go_upto_region 11 with (first | (refine guardY (isLdY 51) ?_ ?_; (· rfl); refine load_has rfl 51 _ rfl b7 rfl [x, y] 2 B7 _ Try.underlying51 rfl ?_ ?_; (· kernel_rfl)) | (refine slice1Di rfl 26 51 _ rfl Try.underlying26 (by kernel_rfl) [x, y] rfl rfl ?_) | (at_builtin; refine wpList_append_prs rfl _ _ rfl B _ N F rfl Q2.out (some ⟨W6.heap.size, 0, none⟩) 1 1 rfl [x, y] rfl (from_new W6 x y _) (by rw [size1]; omega) (by omega) ?_; intro v' w7 hP hgrow hlie; obtain ⟨va', vc', rfl⟩ := hP.rw.shape; have C3 := C2.grown hgrow hcs; have c24' := C3.pours; have f24' := C3.free 24))
          have sz6 := size1 W6 (.cells (ints [x, y]).toArray 51)
          have own7 := Lib.hid (fun z hz => World.ownsRow.lt hP z hz)
          have P7 := Lib.hid hP
          have D3 := (D.alloc (.cells (ints [x, y]).toArray 51)).grownDi hgrow hds
          have T3 := (T8.alloc (.cells (ints [x, y]).toArray 51)).grownDi hgrow (fun e => hb8n _ e.symm rfl)
          have Z3 := (Z.alloc (.cells (ints [x, y]).toArray 51)).grown hgrow (fun e => by have := (own0.out _ e.symm).1; omega)
          have GR3 := Lib.hid ((GR.out.alloc (.cells (ints [x, y]).toArray 51)).grownP hgrow (fun _ z hz => .inr (fun e => by have h1 := (own0.out z hz).1; have h2 := Option.some.inj (show some g = some z from e); omega)))
          have GB3 : Hid (Kept w w7) := Lib.hid ((GB.out.alloc (.cells (ints [x, y]).toArray 51)).grown hgrow (by rw [size1]; have := GB.out.size; omega) (fun z hz => by have := (own0.out z hz).1; omega))
          have NE3 : Hid (∀ z, (Value.slice va' (N + 1) vc').ownBlock = some z → z ≠ B + 1 ∧ z ≠ B + 2) := Lib.hid (fun z hz => by
            rcases hlie with h3 | h3
            · exact NE.out z (h3.symm.trans hz)
            · have h4 := Option.some.inj (h3.symm.trans hz); omega)
          clear hP hgrow hlie Q2 GP C C2 D T8 Z GR GB B7 NE c24 f24 c24' f24' own0
          have C4 := C3.setPours (.slice va' (N + 1) vc')
          have D4 := D3.afterDi (q := B + 1) 24 (.slice va' (N + 1) vc') (by omega)
          have T4 := T3.afterDi (q := B + 1) 24 (.slice va' (N + 1) vc') (by omega)
          have Z4 := Z3.setOther (q := B + 1) 24 (.slice va' (N + 1) vc') (by omega)
          have P4 : Hid (Prs (w7.setCell ⟨B + 1, 24, none⟩ (.slice va' (N + 1) vc')) B (.slice va' (N + 1) vc') (N + 1) (F ++ [x, y])) := Lib.hid (P7.out.putsY (B + 1) 24 [.slice va' (N + 1) vc'] (fun z hz => (NE3.out z hz).1))
          have GR4 : Hid (Rw (w7.setCell ⟨B + 1, 24, none⟩ (.slice va' (N + 1) vc')) b (.slice (some ⟨g, 0, none⟩) n cap) n fs) := Lib.hid (GR3.out.puts (B + 1) 24 [.slice va' (N + 1) vc'] (fun _ e => by have := Option.some.inj (show some g = some (B + 1) from e); omega))
          have GB4 := Lib.hid (GB3.out.set (b := B + 1) (by omega) 24 (.slice va' (N + 1) vc'))
          clear C3 D3 T3 Z3 P7 GR3 GB3
          generalize World.setCell w7 ⟨B + 1, 24, none⟩ (.slice va' (N + 1) vc') = W8 at *
          have R8 := Lib.hid (RT.out W8 T4)
          have C5 := C4.putOther (q := B + 2) 0 (ints R2) (by omega)
          have D5 := D4.putAll R2 L2
          have Z5 := Z4.putOther (q := B + 2) 0 (ints R2) (by omega)
          have P5 := Lib.hid (P4.out.putsY (B + 2) 0 (ints R2) (fun z hz => (NE3.out z hz).2))
          have GR5 := Lib.hid (GR4.out.puts (B + 2) 0 (ints R2) (fun _ e => by have := Option.some.inj (show some g = some (B + 2) from e); omega))
          have GB5 := Lib.hid (GB4.out.puts (b := B + 2) (by omega) 0 (ints R2))
          have hi8 : (Try.prog.info? 30).map (·.size) = some (ints R2).length := by rw [ints_len, L2]; kernel_rfl
          have HI8 := Lib.hid hi8
          clear hi8 T4 RT own7
          go_wp2_with (first | (refine guardY (isLdY 30) ?_ ?_; (· rfl); refine wpList_load_mid rfl 30 _ rfl b8 2 rfl (ints R2) _ R8.out Try.underlying30 rfl HI8.out ?_) | (refine guardY (isStY 30) ?_ ?_; (· rfl); refine store_at rfl 30 _ _ rfl _ R2 rfl rfl R 24 D4 L2 ?_ ?_; (· kernel_rfl)))
          go_roundw
          case rel => exact ⟨k + 1, N + 1, va', vc', by omega, by omega, by go_num, C5, by rw [E1.out]; exact D5, by rw [E2.out]; exact P5, NE3, Z5, GR5, GB5⟩
          case measure => simp [intOf]; omega
      · obtain rfl : k = n := by omega
        have own := Lib.hid (fun z hz => (World.ownsRow.lt GP.out z hz).1)
        have FLN := GP.out.flat
        have EN : Hid (diNA ns fs k = N) := Lib.hid (by unfold diNA; omega)
        have Q := Lib.hid GP.out.rw
        have S1 := Lib.hid (Z.putAll ns (.slice va N vc) H24.out)
        have S2 := Lib.hid (GB.out.puts (b := w.heap.size + 1) (by omega) 0 (rpC ns (.slice va N vc)))
        have S3 := Lib.hid ((Q.out.puts (w.heap.size + 1) 0 (rpC ns (.slice va N vc)) (fun _ e => by have := own.out _ e; omega)).mono (show w.heap.size ≤ B by omega))
        clear FLN GP Q D GR own NE
        go_wp2_with (first | (refine guardY (isLdY 32) ?_ ?_; (· rfl); refine load_ry rfl 32 _ rfl (B + 1) rfl _ _ _ C _ Try.underlying32 rfl ?_ ?_; (· kernel_rfl)) | (refine guardY (isStY 32) ?_ ?_; (· rfl); refine store_ry rfl 32 _ _ rfl (w.heap.size + 1) rfl ns (.slice va N vc) rfl _ _ _ Z H24.out rfl ?_ ?_; (· kernel_rfl)))
        exact bodyPost_ret (res_ry1 rfl _ _ (w.heap.size + 1) ns _ _ _ (.bool true) rfl rfl S1.out Try.underlying32 rfl (by kernel_rfl)) rfl ⟨_, by rw [E.out]; rfl, by rw [E.out]; exact (show Rw _ _ _ (diNA ns fs k) (diF ns fs k) by rw [EN.out]; exact S3.out), S2.out⟩
end Go.Proofs.Ytalngdccjoafhab.base
