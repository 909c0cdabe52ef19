/-
  How many copies of each play can be shared out, on the program's side, walked.
-/
/-
  The plays behind one pour more, on the program's side, walked.
-/
/-
  The plays behind n pours, on the program's side, walked.
-/
/-
  The mean of what is asked behind n pours of a play, on the program's side, walked.
-/
import Derived.Test.YtemiljokdedidacPlyKZ
import Derived.BigQuiet

section
namespace Go.Proofs.Ytemiljokdedidac.base
open Go.ChangeShapes Go.WideShapes Go.ChangeAt Go.RowKit
set_option linter.unusedVariables false
set_option linter.unusedSimpArgs false

set_option maxHeartbeats 1600000 in
set_option maxRecDepth 100000 in
theorem copies_any (all mb : Nat) (K : List (List Int)) (W : List Int → Nat) (w : World) (T : Tab K W) (M : PT w mb K W) :
    Calls Try.prog 121 #[.agg (plC all mb).toArray] w fun e w' => (∃ seen : List (List Int), e = .returned (.int .i64 (lcmW seen : Nat)) ∧ seen.Nodup ∧ ∀ x, x ∈ seen ↔ x ∈ K) ∧ Kept w w' := by
  have BK := Bk.box w (plC all mb) 92
  have HM : PT (w.alloc (.cells (plC all mb).toArray 92)) mb K W := OwnV.alloc M _
  have HB := Lib.hid ((kept_refl w).alloc (.cells (plC all mb).toArray 92))
  have c1 := BK.cell 1 (v := .map (some mb)) rfl
  have HT := Lib.hid T
  have hmw := OwnV.lt M
  clear T M
  go_enter Try.func121, Try.ntmps121
  go_wp2_with (at_range; refine rg_start rfl _ rfl mb K W HM rfl ?_; intro w6 hR hgr hsz)
  go_frame
  replace HB : Hid (Kept w w6) := Lib.hid (HB.out.grown hgr HB.out.size (fun j hj => by cases hj))
  obtain ⟨cnt0, hR⟩ := hR
  replace hR := Lib.hid hR
  have hr5 : w.heap.size ≤ (w.alloc (.cells (plC all mb).toArray 92)).heap.size := by simp
  generalize (w.alloc (.cells (plC all mb).toArray 92)).heap.size = r5 at *
  clear hgr hsz HM BK c1
  go_loopg [3] cnt0 (fun gk s3 wr => ∃ (cnt : Nat) (seen : List (List Int)) (c : Nat), gk = cnt ∧ s3 = .int .i64 (c : Nat) ∧ Hid (c = lcmW seen) ∧ Hid (Rg wr mb r5 K W seen cnt) ∧ Hid (Kept w wr))
  case atStart => exact ⟨cnt0, _, 1, rfl, rfl, Lib.hid rfl, hR, HB⟩
  case round =>
    clear hR HB
    obtain ⟨cnt, seen, c, rfl, rfl, HC, GR, GB⟩ := hrel
    go_wp2_with (at_next; refine rg_step rfl _ rfl mb r5 gk K W HT.out seen GR.out rfl ?_ ?_)
    · intro hall
      have ND := Lib.hid GR.out.nodup
      have AL := Lib.hid hall
      clear hall GR
      go_wp2_with fail
      go_ret
      exact ⟨⟨seen, by rw [← HC.out]; rfl, ND.out, AL.out⟩, GB.out⟩
    · intro f w7 cnt' hf hfs hR7 hlt hgr hsz hen
      have gf := HT.out.good f hf
      have f24 := gf.1
      have dc : c ∣ L30 := by rw [HC.out]; exact lcmW_div seen
      have c0 := pos_of_dvd dc
      have cb := le_of_dvd30 dc
      obtain ⟨wy1, wy30⟩ := wy_in f
      have HC2 := Lib.hid (show Nat.lcm c (wy f) = lcmW (f :: seen) by rw [lcmW, HC.out])
      have dl : Nat.lcm c (wy f) ∣ L30 := by rw [HC2.out]; exact lcmW_div _
      have lb := le_of_dvd30 dl
      have gl := Nat.le_of_dvd c0 (Nat.gcd_dvd_left c (wy f))
      have gp := Nat.gcd_pos_of_pos_left (wy f) c0
      have st := lcm_step c (wy f) c0
      have KG := Lib.hid (fun V => comDiv_any c (wy f) V (by unfold L30 at cb; omega) (by omega))
      have KN := Lib.hid (fun V => next_any f V gf)
      have LN : Hid ((nxL f).length = wy f) := Lib.hid rfl
      replace GB : Hid (Kept w w7) := Lib.hid (GB.out.grown hgr GB.out.size (fun j hj => by have hj := Option.some.inj hj; omega))
      have GR7 := Lib.hid (hR7.alloc (.cells (ints f).toArray 38))
      replace GB := Lib.hid (GB.out.alloc (.cells (ints f).toArray 38))
      have GY := Has.box w7 38 f24 (by omega)
      have hLT := Lib.hid hlt
      clear hR7 hgr hsz hf hfs GR HC hlt
      go_upto_region 5 with (refine store_new rfl 38 _ _ rfl _ _ _ rfl _ rfl _ rfl rfl ?_ ?_ ?_; (· (first | assumption | rfl)); (· kernel_rfl))
      generalize w7.alloc (.cells (ints f).toArray 38) = W8 at *
      go_wp2_with (first | (refine load_has rfl 38 _ rfl _ rfl ?_ 24 ?_ _ Try.underlying38 rfl ?_ ?_; rotate_left; (· (repeat (first | (with_reducible assumption) | ((with_reducible refine Has.box _ _ ?_ ?_) <;> (first | assumption | decide)) | (with_reducible refine Has.alloc ?_ _) | ((with_reducible refine Has.putOther ?_ _ _ ?_); rotate_left; omega; skip) | ((with_reducible refine Has.below ?_ ?_); rotate_left; assumption)))); (· kernel_rfl)) | (refine build_lawX rfl 42 _ rfl (.agg (ints f).toArray) (.agg (ints f).toArray) rfl (buildRackX f f24) ?_))
      refine (KN.out _).mono ?_
      rintro e w9 ⟨v, rfl, q9, b9⟩
      obtain ⟨va, vc, rfl⟩ := q9.shape
      rw [LN.out]
      replace GR7 := Lib.hid (GR7.out.below b9)
      replace GB := Lib.hid (GB.out.call b9)
      clear q9 b9 GY
      generalize wy f = u at *
      go_wp2_with fail
      refine (KG.out _).mono ?_
      rintro e w10 ⟨rfl, b10⟩
      replace GR7 := Lib.hid (GR7.out.below b10)
      replace GB := Lib.hid (GB.out.call b10)
      clear b10 KG KN
      generalize Nat.gcd c u = g at *
      generalize Nat.lcm c u = l at *
      have g0 : ((g : Int) == 0) = false := by simp; omega
      have gn : ¬ g = 0 := by omega
      have td : Int.tdiv (c : Int) (g : Int) = ((c / g : Nat) : Int) := rfl
      have qc : c / g ≤ c := Nat.div_le_self _ _
      obtain ⟨q, hq⟩ : ∃ q, q = c / g := ⟨_, rfl⟩
      rw [← hq] at td qc st
      have wd : IntKind.i64.wrap (q : Int) = (q : Int) := IntWalk.i64_in _ (by unfold L30 at cb; omega)
      have wm : IntKind.i64.wrap ((q : Int) * (u : Int)) = (l : Int) := by
        rw [← Int.natCast_mul, st]; exact IntWalk.i64_in _ (by unfold L30 at lb; omega)
      clear st dc dl cb lb gl gp hq
      go_wp2_with fail
      go_roundg cnt'
      case rel => exact ⟨cnt', f :: seen, l, rfl, rfl, HC2, GR7, GB⟩
      case measure => exact hLT.out
end Go.Proofs.Ytemiljokdedidac.base
end

section
namespace Go.Proofs.Ytemiljokdedidac.base
open Go.ChangeShapes Go.WideShapes Go.ChangeAt Go.RowKit
set_option linter.unusedVariables false
set_option linter.unusedSimpArgs false

/-- What the racks that have come have made. -/
structure OnP (K : List (List Int)) (W : List Int → Nat) (c : Nat) (seen K' : List (List Int)) (W' : List Int → Nat) : Prop where
  tab : Tab K' W'
  sum : ∀ g, tot K' W' g = fsum (fun s => W s * (c / wy s) * S1 g s) seen
  ends : ∀ x, x ∈ K' ↔ ∃ s ∈ seen, x ∈ nxL s
  len : K'.length ≤ fsum wy seen
theorem OnP.start (K : List (List Int)) (W : List Int → Nat) (c : Nat) : OnP K W c [] [] (fun _ => 0) :=
  ⟨Tab.nil, fun g => rfl, fun x => by simp, by simp [fsum]⟩
/-- .. and the first i next racks of the one that comes. -/
structure AddP (K1 : List (List Int)) (W1 : List Int → Nat) (q : Nat) (L : List (List Int)) (i : Nat) (K2 : List (List Int)) (W2 : List Int → Nat) : Prop where
  tab : Tab K2 W2
  sum : ∀ g, tot K2 W2 g = tot K1 W1 g + q * fsum g (L.take i)
  ends : ∀ x, x ∈ K2 ↔ x ∈ K1 ∨ x ∈ L.take i
  len : K2.length ≤ K1.length + i
theorem AddP.start {K1 : List (List Int)} {W1 : List Int → Nat} (T : Tab K1 W1) (q : Nat) (L : List (List Int)) : AddP K1 W1 q L 0 K1 W1 :=
  ⟨T, fun g => by simp [fsum], fun x => by simp, by omega⟩
theorem take_one {L : List (List Int)} {i : Nat} (h : i < L.length) : L.take (i + 1) = L.take i ++ [L.getD i []] := by
  rw [List.take_add_one, List.getElem?_eq_getElem h, List.getD_eq_getElem?_getD, List.getElem?_eq_getElem h]; rfl
theorem getD_in9 {L : List (List Int)} {i : Nat} (h : i < L.length) : L.getD i [] ∈ L := by
  rw [List.getD_eq_getElem?_getD, List.getElem?_eq_getElem h]; exact List.getElem_mem _
theorem AddP.step {K1 K2 L : List (List Int)} {W1 W2 : List Int → Nat} {q i : Nat} (A : AddP K1 W1 q L i K2 W2) (h : i < L.length) (g : GR (L.getD i [])) : AddP K1 W1 q L (i + 1) (insP K2 (L.getD i [])) (updP W2 (L.getD i []) q) := by
  refine ⟨A.tab.ins _ q g, fun f => ?_, fun x => ?_, ?_⟩
  · rw [A.tab.tot_ins, A.sum, take_one h, fsum_app, fsum_cons, fsum_nil, Nat.add_zero, Nat.mul_add, Nat.add_assoc]
  · rw [insP_mem, A.ends, take_one h, List.mem_append, List.mem_singleton]
    constructor
    · rintro ((h | h) | h)
      · exact .inl h
      · exact .inr (.inl h)
      · exact .inr (.inr h)
    · rintro (h | h | h)
      · exact .inl (.inl h)
      · exact .inl (.inr h)
      · exact .inr h
  · have := insP_len K2 (L.getD i [])
    have := A.len
    omega
theorem OnP.step {K seen K1 K2 : List (List Int)} {W W1 W2 : List Int → Nat} {c : Nat} {s : List Int} (O : OnP K W c seen K1 W1) (A : AddP K1 W1 (W s * (c / wy s)) (nxL s) (wy s) K2 W2) : OnP K W c (s :: seen) K2 W2 := by
  have e : (nxL s).take (wy s) = nxL s := List.take_of_length_le (Nat.le_refl _)
  refine ⟨A.tab, fun g => ?_, fun x => ?_, ?_⟩
  · rw [A.sum, O.sum, e, fsum_cons]
    show _ + W s * (c / wy s) * fsum g (nxL s) = W s * (c / wy s) * S1 g s + _
    unfold S1; omega
  · rw [A.ends, O.ends, e]
    constructor
    · rintro (⟨t, ht, hx⟩ | hx)
      · exact ⟨t, List.mem_cons_of_mem _ ht, hx⟩
      · exact ⟨s, List.mem_cons_self .., hx⟩
    · rintro ⟨t, ht, hx⟩
      rcases List.mem_cons.1 ht with rfl | ht
      · exact .inr hx
      · exact .inl ⟨t, ht, hx⟩
  · have := A.len
    have := O.len
    rw [fsum_cons]; omega
theorem OnP.done {K seen K1 : List (List Int)} {W W1 : List Int → Nat} {c : Nat} (O : OnP K W c seen K1 W1) (hn : K.Nodup) (hs : seen.Nodup) (h : ∀ x, x ∈ seen ↔ x ∈ K) (dc : c ∣ L30) (de : ∀ s ∈ K, wy s ∣ c) : Onward K W c K1 W1 := by
  refine ⟨O.tab, fun g => by rw [O.sum]; exact fsum_all _ hs hn h, fun x => ?_, ?_, dc, de⟩
  · rw [O.ends]
    constructor
    · rintro ⟨s, hs, hx⟩; exact ⟨s, (h s).1 hs, hx⟩
    · rintro ⟨s, hs, hx⟩; exact ⟨s, (h s).2 hs, hx⟩
  · have h1 := O.len
    rw [fsum_all wy hs hn h] at h1
    have h2 := fsum_le (g := wy) (h := fun _ => 30) (L := K) (fun x _ => (wy_in x).2)
    rw [fsum_const] at h2
    omega
/-- No number gets too great. -/
theorem OnP.bound {K seen K1 : List (List Int)} {W W1 : List Int → Nat} {c all : Nat} (O : OnP K W c seen K1 W1) (hs : seen.Nodup) (h : ∀ x ∈ seen, x ∈ K) (de : ∀ s ∈ K, wy s ∣ c) (ha : tot K W (fun _ => 1) = all) : tot K1 W1 (fun _ => 1) ≤ c * all := by
  rw [O.sum]
  have h1 : fsum (fun s => W s * (c / wy s) * S1 (fun _ => 1) s) seen = fsum (fun s => c * (W s * 1)) seen := fsum_congr fun s hs2 => by
    rw [S1_one, Nat.mul_assoc, Nat.div_mul_cancel (de s (h s hs2)), Nat.mul_one, Nat.mul_comm]
  rw [h1]
  refine Nat.le_trans (fsum_sub _ hs h) ?_
  rw [fsum_mul, ← ha]
  exact Nat.le_refl _
theorem tab_le {K : List (List Int)} {W : List Int → Nat} (T : Tab K W) (l : List Int) : W l ≤ tot K W (fun _ => 1) := by
  by_cases h : l ∈ K
  · exact tot_one_le h
  · rw [T.out l h]; omega
theorem res_bk0 {P : Program} {fn : Func} {p : Tmp} {T : TypeId} (h : fn.results = #[.cell p T]) (tmps : Array Value) (w : World) (b : Nat) (cs : List Value) (T' : TypeId) (d : TypeDesc)
    (hp : tmps.getD p undef = .pointer (some ⟨b, 0, none⟩)) (H : Bk w b cs T') (hu : P.underlying T = some d) (hd : d.isRow = true) (hi : (P.info? T).map (·.size) = some cs.length) :
    (results fn tmps).run P w = .ok (.agg cs.toArray) w := by
  have hp' : tmps[p]?.getD undef = .pointer (some ⟨b, 0, none⟩) := by simpa using hp
  have hl := run_loadVar_mid (P := P) w b 0 T cs d H.range hu hd hi
  simp [results, h, hp', asAddr, hl]
def z92 : List Value := [.int .i64 0, .map none]
theorem PT.below {w w' : World} {b : Nat} {K : List (List Int)} {W : List Int → Nat} (h : PT w b K W) (k : Below w.heap.size w w') : PT w' b K W := OwnV.below h k
theorem PT.alloc {w : World} {b : Nat} {K : List (List Int)} {W : List Int → Nat} (h : PT w b K W) (o : Obj) : PT (w.alloc o) b K W := OwnV.alloc h o
theorem PT.grown {w w' : World} {b : Nat} {K : List (List Int)} {W : List Int → Nat} {r : Option Nat} (h : PT w b K W) (hg : w.grownBy w' r) (hne : some b ≠ r) : PT w' b K W := OwnV.grown h hg hne
theorem PT.drew {w : World} {b : Nat} {K : List (List Int)} {W : List Int → Nat} (h : PT w b K W) : PT w.drew b K W := OwnV.block h rfl
theorem PT.lt {w : World} {b : Nat} {K : List (List Int)} {W : List Int → Nat} (h : PT w b K W) : b < w.heap.size := OwnV.lt h
/-- What the plays behind one pour more are. -/
def OnPost (all : Nat) (K : List (List Int)) (W : List Int → Nat) (w : World) (e : Ending) (w' : World) : Prop :=
  (∃ (mb c : Nat) (K' : List (List Int)) (W' : List Int → Nat), e = .returned (.agg (plC (all * c) mb).toArray) ∧ PT w' mb K' W' ∧ w.heap.size ≤ mb ∧ Onward K W c K' W' ∧ ∀ r, K = [r] → c = lcmW [r]) ∧ Kept w w'
theorem seen_one {seen : List (List Int)} {r : List Int} (hn : seen.Nodup) (h : ∀ x, x ∈ seen ↔ x ∈ [r]) : seen = [r] := by
  have hp := (List.perm_ext_iff_of_nodup hn (by simp)).2 h
  exact List.perm_singleton.1 hp

set_option maxHeartbeats 6400000 in
set_option maxRecDepth 100000 in
theorem pourOn_any (all mb : Nat) (K : List (List Int)) (W : List Int → Nat) (w : World) (T : Tab K W) (M : PT w mb K W) (ha : tot K W (fun _ => 1) = all) (h30 : all ≤ 30) (hK : K.length ≤ 30) :
    Calls Try.prog 101 #[.agg (plC all mb).toArray] w (OnPost all K W w) := by
  have hmm := @run_makeMap Try.prog
  have BK := (Bk.box w (plC all mb) 92).alloc (.cells z92.toArray 92)
  have Z := (Bk.box (w.alloc (.cells (plC all mb).toArray 92)) z92 92).at (size1 _ _)
  have HM := (PT.alloc M (.cells (plC all mb).toArray 92)).alloc (.cells z92.toArray 92)
  have HB := Lib.hid (((kept_refl w).alloc (.cells (plC all mb).toArray 92)).alloc (.cells z92.toArray 92))
  have HT := Lib.hid T
  have hmw := M.lt
  have HA := Lib.hid ha
  have KC := Lib.hid (fun V (h : PT V mb K W) => copies_any all mb K W V T h)
  clear T M ha
  go_enter Try.func101, Try.ntmps101
  go_wp2_with (refine load_bk rfl 92 _ rfl _ rfl _ _ BK _ Try.underlying92 rfl (by kernel_rfl) ?_)
  refine (KC.out _ HM).mono ?_
  rintro e w1 ⟨⟨s0, rfl, nd0, al0⟩, b1⟩
  have DC := Lib.hid (lcmW_div s0)
  have DE := Lib.hid (show ∀ s ∈ K, wy s ∣ lcmW s0 from fun s hs => lcmW_mem ((al0 s).2 hs))
  have ONE := Lib.hid (show ∀ r, K = [r] → lcmW s0 = lcmW [r] from fun r hr => by rw [seen_one nd0 (fun x => by rw [al0, hr])])
  replace BK := BK.below b1
  replace Z := Z.below b1
  replace HM := HM.below b1
  replace HB := Lib.hid (HB.out.call b1)
  have hbz := Z.lt
  clear b1 nd0 al0 KC
  generalize lcmW s0 = c at *
  have cb := le_of_dvd30 DC.out
  have cp := pos_of_dvd DC.out
  have M0 : PT (w1.alloc (.map #[] 0)) w1.heap.size [] (fun _ => 0) := (OwnV.made w1 Try.prog 38 24).as (fun ns _ => by unfold tabF; rw [if_neg (by simp)])
  replace BK := BK.alloc (.map #[] 0)
  replace Z := Z.alloc (.map #[] 0)
  replace HM := HM.alloc (.map #[] 0)
  replace HB := Lib.hid (HB.out.alloc (.map #[] 0))
  have c1 := BK.cell 1 (v := .map (some mb)) rfl
  go_wp2_with (at_range; refine rg_start rfl _ rfl mb K W HM rfl ?_; intro w6 hR hgr hsz)
  go_frame
  replace BK := BK.grown hgr (by simp)
  replace Z := Z.grown hgr (by simp)
  replace M0 := M0.grown hgr (by simp)
  replace HB : Hid (Kept w w6) := Lib.hid (HB.out.grown hgr HB.out.size (fun j hj => by cases hj))
  obtain ⟨cnt0, hR⟩ := hR
  replace hR := Lib.hid hR
  obtain ⟨m2, hm2⟩ : ∃ m2, w1.heap.size = m2 := ⟨_, rfl⟩
  have hr5 : (w1.alloc (.map #[] 0)).heap.size = m2 + 1 := by rw [size1, hm2]
  rw [hr5] at hR ⊢
  rw [hm2] at M0 hbz ⊢
  have M1 := Lib.hid M0
  have OP := Lib.hid (OnP.start K W c)
  clear hgr hsz HM c1 hm2 hr5 M0 hmm
  go_loopg [6] cnt0 (fun gk s6 wr => ∃ (cnt : Nat) (seen K1 : List (List Int)) (W1 : List Int → Nat), gk = cnt ∧ Hid (Rg wr mb (m2 + 1) K W seen cnt) ∧ Hid (PT wr m2 K1 W1) ∧ Hid (OnP K W c seen K1 W1) ∧ Bk wr w.heap.size (plC all mb) 92 ∧ Bk wr (w.heap.size + 1) z92 92 ∧ Hid (Kept w wr))
  case atStart => exact ⟨cnt0, _, _, _, rfl, hR, M1, OP, BK, Z, HB⟩
  case round =>
    clear hR HB M1 OP BK Z
    obtain ⟨cnt, seen, K1, W1, rfl, GR, GM, GO, BK, Z, GB⟩ := hrel
    go_wp2_with (at_next; refine rg_step rfl _ rfl mb (m2 + 1) gk K W HT.out seen GR.out rfl ?_ ?_)
    · intro hall
      have ON := Lib.hid (GO.out.done HT.out.nodup GR.out.nodup hall DC.out DE.out)
      have c0 := BK.cell 0 (v := .int .i64 (all : Nat)) rfl
      have S1 := Lib.hid (Z.putAll (plC (all * c) m2) rfl)
      have S2 := Lib.hid (GB.out.puts (b := w.heap.size + 1) (by omega) 0 (plC (all * c) m2))
      have S3 : Hid (PT (wr.setCells (w.heap.size + 1) 0 (plC (all * c) m2)) m2 K1 W1) := Lib.hid (OwnV.puts (by omega) _ _ _ GM.out)
      have ab : all * c ≤ 30 * L30 := Nat.mul_le_mul h30 cb
      have wm : IntKind.i64.wrap ((all : Int) * (c : Int)) = ((all * c : Nat) : Int) := by
        rw [← Int.natCast_mul]; exact IntWalk.i64_in _ (by unfold L30 at ab; omega)
      clear hall GR GO GM GB ab cb
      go_wp2_with (refine store_bk rfl 92 _ _ rfl _ rfl (plC (all * c) m2) rfl _ _ Z rfl ?_ ?_ ?_)
      · intro v hv
        unfold plC at hv
        simp only [List.mem_cons, List.not_mem_nil, or_false] at hv
        rcases hv with rfl | rfl <;> rfl
      · kernel_rfl
      exact bodyPost_ret (res_bk0 rfl _ _ (w.heap.size + 1) (plC (all * c) m2) _ _ rfl S1.out Try.underlying92 rfl (by kernel_rfl)) rfl ⟨⟨m2, c, K1, W1, rfl, S3.out, by omega, ON.out, ONE.out⟩, S2.out⟩
    · intro f w7 cnt' hf hfs hR7 hlt hgr hsz hen
      have gf := HT.out.good f hf
      have f24 := gf.1
      obtain ⟨wy1, wy30⟩ := wy_in f
      have LN : Hid ((nxL f).length = wy f) := Lib.hid rfl
      have GD := Lib.hid (fun x (hx : x ∈ nxL f) => nxL_good gf x hx)
      have KN := Lib.hid (fun V => next_any f V gf)
      have dv := DE.out f hf
      have hWf : W f ≤ 30 := Nat.le_trans (tab_le HT.out f) (by rw [HA.out]; exact h30)
      have hm : W f * c ≤ 30 * L30 := Nat.mul_le_mul hWf cb
      have hq : W f * c / wy f = W f * (c / wy f) := Nat.mul_div_assoc _ dv
      have hqle : W f * c / wy f ≤ W f * c := Nat.div_le_self _ _
      have ST := Lib.hid (fun (K2 : List (List Int)) (W2 : List Int → Nat) (A : AddP K1 W1 (W f * (c / wy f)) (nxL f) (wy f) K2 W2) => GO.out.step A)
      have ND := Lib.hid (List.nodup_cons.2 ⟨hfs, GR.out.nodup⟩)
      have SB := Lib.hid (show ∀ x ∈ f :: seen, x ∈ K from fun x hx => by
        rcases List.mem_cons.1 hx with rfl | hx
        · exact hf
        · exact GR.out.sub x hx)
      -- the numbers on the way stay below the last ones
      have BD := Lib.hid (show ∀ (i : Nat) (K2 : List (List Int)) (W2 : List Int → Nat), i < wy f → AddP K1 W1 (W f * (c / wy f)) (nxL f) i K2 W2 → (∀ l, W2 l + W f * (c / wy f) ≤ 30 * L30) ∧ K2.length ≤ 930 from fun i K2 W2 hi A => by
        have e1 := A.sum (fun _ => 1)
        have hb := GO.out.bound GR.out.nodup GR.out.sub DE.out HA.out
        refine ⟨fun l => ?_, ?_⟩
        · have h1 := tab_le A.tab l
          have h2 : fsum (fun _ => 1) ((nxL f).take i) = i := by
            rw [fsum_const, List.length_take, Nat.min_eq_left (by rw [LN.out]; omega)]; omega
          rw [h2] at e1
          -- seen and f together
          have h3 : tot K1 W1 (fun _ => 1) + W f * (c / wy f) * wy f ≤ c * all := by
            have e2 : fsum (fun s => W s * (c / wy s) * S1 (fun _ => 1) s) (f :: seen) = W f * (c / wy f) * wy f + tot K1 W1 (fun _ => 1) := by
              rw [fsum_cons, GO.out.sum, S1_one]
            have e3 : fsum (fun s => W s * (c / wy s) * S1 (fun _ => 1) s) (f :: seen) = fsum (fun s => c * (W s * 1)) (f :: seen) := fsum_congr fun s hs2 => by
              rw [S1_one, Nat.mul_assoc, Nat.div_mul_cancel (DE.out s (SB.out s hs2)), Nat.mul_one, Nat.mul_comm]
            have e4 := fsum_sub (fun s => c * (W s * 1)) ND.out SB.out
            rw [fsum_mul c (fun s => W s * 1) K] at e4
            have e5 : fsum (fun s => W s * 1) K = all := HA.out
            rw [e5] at e4
            omega
          have h4 : c * all ≤ 30 * L30 := by rw [Nat.mul_comm]; exact Nat.mul_le_mul h30 cb
          have h5 : W f * (c / wy f) * i + W f * (c / wy f) ≤ W f * (c / wy f) * wy f := by
            rw [← Nat.mul_succ]; exact Nat.mul_le_mul_left _ hi
          omega
        · have h1 := A.len
          have h2 := GO.out.len
          have h3 := fsum_sub wy GR.out.nodup GR.out.sub
          have h4 := fsum_le (g := wy) (h := fun _ => 30) (L := K) (fun x _ => (wy_in x).2)
          rw [fsum_const] at h4
          omega)
      have A0 := Lib.hid (AddP.start GO.out.tab (W f * (c / wy f)) (nxL f))
      have GXL := Lib.hid hlt
      replace BK := BK.grown hgr (fun e => by have e := Option.some.inj e; omega)
      replace Z := Z.grown hgr (fun e => by have e := Option.some.inj e; omega)
      replace GM := Lib.hid (GM.out.grown hgr (fun e => by have e := Option.some.inj e; omega))
      replace GB : Hid (Kept w w7) := Lib.hid (GB.out.grown hgr GB.out.size (fun j hj => by have hj := Option.some.inj hj; omega))
      have GR7 := Lib.hid (hR7.alloc (.cells (ints f).toArray 38))
      replace BK := BK.alloc (.cells (ints f).toArray 38)
      replace Z := Z.alloc (.cells (ints f).toArray 38)
      replace GM := Lib.hid (GM.out.alloc (.cells (ints f).toArray 38))
      replace GB := Lib.hid (GB.out.alloc (.cells (ints f).toArray 38))
      have GY := Has.box w7 38 f24 (by omega)
      rw [← hq] at ST BD A0
      obtain ⟨m, hmm⟩ : ∃ m, W f * c = m := ⟨_, rfl⟩
      rw [hmm] at hm hqle ST BD A0
      have wm : IntKind.i64.wrap (((W f : Nat) : Int) * (c : Int)) = (m : Int) := by
        rw [← Int.natCast_mul, hmm]; exact IntWalk.i64_in _ (by unfold L30 at hm; omega)
      have td : Int.tdiv (m : Int) (wy f : Int) = ((m / wy f : Nat) : Int) := rfl
      obtain ⟨q, hqq⟩ : ∃ q, m / wy f = q := ⟨_, rfl⟩
      rw [hqq] at hqle ST BD A0 td
      have wq : IntKind.i64.wrap (q : Int) = (q : Int) := IntWalk.i64_in _ (by unfold L30 at hm; omega)
      have WTD := Lib.hid td
      have WWQ := Lib.hid wq
      have WWM := Lib.hid wm
      clear hR7 hgr hsz hf hfs GR hlt hq hqq hmm dv hm td wq wm
      go_upto_region 6 with (refine store_new rfl 38 _ _ rfl _ _ _ rfl _ rfl _ rfl rfl ?_ ?_ ?_; (· (first | assumption | rfl)); (· kernel_rfl))
      generalize w7.alloc (.cells (ints f).toArray 38) = W8 at *
      go_wp2_with (first | (refine load_has rfl 38 _ rfl _ rfl ?_ 24 ?_ _ Try.underlying38 rfl ?_ ?_; rotate_left; (· (repeat (first | (with_reducible assumption) | ((with_reducible refine Has.box _ _ ?_ ?_) <;> (first | assumption | decide)) | (with_reducible refine Has.alloc ?_ _) | ((with_reducible refine Has.putOther ?_ _ _ ?_); rotate_left; omega; skip) | ((with_reducible refine Has.below ?_ ?_); rotate_left; assumption)))); (· kernel_rfl)) | (refine build_lawX rfl 42 _ rfl (.agg (ints f).toArray) (.agg (ints f).toArray) rfl (buildRackX f f24) ?_))
      refine (KN.out _).mono ?_
      rintro e w9 ⟨v, rfl, q9, b9⟩
      obtain ⟨va, vc, rfl⟩ := q9.shape
      obtain ⟨g, gc, hvv, hg1, hg2⟩ := q9.form (by rw [LN.out]; omega)
      injection hvv with ev1 _ ev3
      subst ev1
      subst ev3
      have hmg : m2 < g := by have := GM.out.lt; omega
      have hbg : w.heap.size + 1 < g := by have := Z.lt; omega
      have hrg : m2 + 1 < g := by have := GR7.out.lt.1; omega
      have GL := Lib.hid (q9.mono (b' := 0) (Nat.zero_le _))
      rw [LN.out] at GL ⊢
      replace GR7 := Lib.hid (GR7.out.below b9)
      replace BK := BK.below b9
      replace Z := Z.below b9
      replace GM := Lib.hid (GM.out.below b9)
      replace GB := Lib.hid (GB.out.call b9)
      clear q9 b9 GY KN
      obtain ⟨u, hu⟩ : ∃ u, wy f = u := ⟨_, rfl⟩
      rw [hu] at LN GL ST BD WTD wy1 wy30 ⊢
      have HU := Lib.hid hu
      clear hu
      go_wp2_with fail
      go_loopg [26] u (fun gk s26 wx => ∃ (i : Nat) (K2 : List (List Int)) (W2 : List Int → Nat), gk = u - i ∧ i ≤ u ∧ s26 = .int .i64 i ∧ Hid (AddP K1 W1 q (nxL f) i K2 W2) ∧ Hid (PT wx m2 K2 W2) ∧ Hid (Rg wx mb (m2 + 1) K W (f :: seen) cnt') ∧ Hid (Gr wx 0 42 24 (.slice (some ⟨g, 0, none⟩) u vc) (nxL f)) ∧ Bk wx w.heap.size (plC all mb) 92 ∧ Bk wx (w.heap.size + 1) z92 92 ∧ Hid (Kept w wx))
      case atStart => exact ⟨0, K1, W1, rfl, by omega, rfl, A0, GM, GR7, GL, BK, Z, GB⟩
      case round =>
        clear A0 GM GR7 GL BK Z GB
        obtain ⟨i, K2, W2, rfl, hi, rfl, GA, GM, GR, GL, BK, Z, GB⟩ := hrel
        by_cases hiu : i < u
        · have hii : (i : Int) < (u : Int) := by omega
          have hi0 : (0 : Int) ≤ (i : Int) := by omega
          have hil : i < (nxL f).length := by rw [LN.out]; exact hiu
          have gx := GD.out _ (getD_in9 hil)
          have AS := Lib.hid (GA.out.step hil gx)
          have RG := Lib.hid (GL.out.range LN.out.symm i hiu)
          obtain ⟨bw, bk⟩ := BD.out i K2 W2 hiu GA.out
          have bx := bw ((nxL f).getD i [])
          obtain ⟨x, hx⟩ : ∃ x, (nxL f).getD i [] = x := ⟨_, rfl⟩
          rw [hx] at gx AS RG bx
          clear hx hil bw
          have x24 := gx.1
          have ROW := Lib.hid (rack_row9 gx)
          have KEY := Lib.hid (play_key ROW.out)
          have TB := Lib.hid GA.out.tab
          obtain ⟨p1, p2⟩ := tabF_put TB.out x q
          have PL := Lib.hid p1
          have PP := Lib.hid p2
          have hgm := GM.out.lt
          have hgz := Z.lt
          have hgg := (GL.out.own g rfl).2
          have hgr' := GR.out.lt.1
          have HP := Has.box wr 42 x24 (by omega)
          replace GM := Lib.hid (GM.out.alloc (.cells (ints x).toArray 42))
          replace GR := Lib.hid (GR.out.alloc (.cells (ints x).toArray 42))
          replace GL := Lib.hid (GL.out.alloc (.cells (ints x).toArray 42))
          replace BK := BK.alloc (.cells (ints x).toArray 42)
          replace Z := Z.alloc (.cells (ints x).toArray 42)
          replace GB := Lib.hid (GB.out.alloc (.cells (ints x).toArray 42))
          have hi24 : (Try.prog.info? 42).map (·.size) = some (ints x).length := by rw [ints_len, x24]; kernel_rfl
          have hi6 : (Try.prog.info? 38).map (·.size) = some (ints x).length := by rw [ints_len, x24]; kernel_rfl
          clear gx p1 p2
          go_wp2_with (first | (refine wpList_load_mid rfl 42 _ rfl g (i * 24) rfl (ints x) _ RG.out Try.underlying42 rfl hi24 ?_) | (refine store_new rfl 42 _ _ rfl _ _ _ rfl _ rfl _ rfl rfl ?_ ?_ ?_; (· (first | assumption | rfl)); (· kernel_rfl)))
          obtain ⟨rb, hrb⟩ : ∃ rb, wr.heap.size = rb := ⟨_, rfl⟩
          rw [hrb] at HP hgm hgz hgg hgr' ⊢
          clear hrb RG
          have DH := HP.drew
          have DM := Lib.hid GM.out.drew
          have DR := Lib.hid GR.out.drew
          have DL := Lib.hid GL.out.drew
          have DK : Bk (World.drew _) w.heap.size (plC all mb) 92 := BK.drew
          have DZ : Bk (World.drew _) (w.heap.size + 1) z92 92 := Z.drew
          have DB := Lib.hid (GB.out.drewN 1)
          change Hid (Kept w (World.drew _)) at DB
          refine wp_region_held_drew (S := fun w' => Has w' rb x 24) (by kernel_rfl) DH (fun hHeld => ?_)
          clear HP GM GR GL BK Z GB
          generalize World.drew _ = WD at *
          have un : ¬ u = 0 := by omega
          have u0 : ((u : Int) == 0) = false := by simp; omega
          have td := WTD.out
          have wq := WWQ.out
          have wm := WWM.out
          have ws : IntKind.i64.wrap ((W2 x : Int) + (q : Int)) = ((W2 x + q : Nat) : Int) := by rw [IntWalk.i64_in _ (by unfold L30 at bx; omega)]; omega
          obtain ⟨st, w2, r1, r2, r3, r4⟩ := OwnV.entry DM.out playLaw Try.underlying90 zeroInt9 (by unfold maxLen; omega) ROW.out KEY.out
          obtain ⟨w3, s1, s2, s3⟩ := r4 (.int .i64 ((W2 x + q : Nat) : Int))
          rw [tabF_get TB.out] at r1
          have hne : some rb ≠ some m2 := fun e => by have e := Option.some.inj e; omega
          have T2 := DH.grownNo r3 hne
          have T3 := DH.grownNo s3 hne
          clear r4
          (refine wpAnyH_take (i := 0) (v := ?_) rfl (by kernel_rfl) (by kernel_rfl) (by kernel_rfl) (fun _ _ _ h => h) (Or.inl ⟨by rfl, ?_⟩) hHeld ?_; rotate_left; (· (intro w' hSw; go_simp; try with_reducible rfl)); (try simp only [List.getElem_toArray, List.getElem_cons_zero, List.getElem_cons_succ, Act.put, List.setIfInBounds_toArray, List.set_cons_zero, List.set_cons_succ])); (refine wpAnyH_take (i := 1) (v := ?_) rfl (by kernel_rfl) (by kernel_rfl) (by kernel_rfl) (fun _ _ _ h => h) (Or.inl ⟨by rfl, ?_⟩) hHeld ?_; rotate_left; (· (intro w' hSw; go_simp; try with_reducible rfl)); (try simp only [List.getElem_toArray, List.getElem_cons_zero, List.getElem_cons_succ, Act.put, List.setIfInBounds_toArray, List.set_cons_zero, List.set_cons_succ]))
          (refine wpAnyH_take (i := 2) (v := _) rfl (by kernel_rfl) (by kernel_rfl) (by kernel_rfl) (fun _ _ _ h => h) (yieldsIf_load_mid (by rfl) 38 _ rfl _ _ rfl (ints x) _ (fun w' hSw => hSw.holds.range) Try.underlying38 rfl (hi6)) hHeld ?_; (try simp only [List.getElem_toArray, List.getElem_cons_zero, List.getElem_cons_succ, Act.put, List.setIfInBounds_toArray, List.set_cons_zero, List.set_cons_succ]))
          (refine wpAnyH_take (i := 4) (v := ?_) rfl (by kernel_rfl) (by kernel_rfl) (by kernel_rfl) (fun _ _ _ h => h) (Or.inl ⟨by rfl, ?_⟩) hHeld ?_; rotate_left; (· (intro w' hSw; go_simp; try with_reducible rfl)); (try simp only [List.getElem_toArray, List.getElem_cons_zero, List.getElem_cons_succ, Act.put, List.setIfInBounds_toArray, List.set_cons_zero, List.set_cons_succ])); (refine wpAnyH_take (i := 5) (v := ?_) rfl (by kernel_rfl) (by kernel_rfl) (by kernel_rfl) (fun _ _ _ h => h) (Or.inl ⟨by rfl, ?_⟩) hHeld ?_; rotate_left; (· (intro w' hSw; go_simp; try with_reducible rfl)); (try simp only [List.getElem_toArray, List.getElem_cons_zero, List.getElem_cons_succ, Act.put, List.setIfInBounds_toArray, List.set_cons_zero, List.set_cons_succ])); (refine wpAnyH_take (i := 6) (v := ?_) rfl (by kernel_rfl) (by kernel_rfl) (by kernel_rfl) (fun _ _ _ h => h) (Or.inl ⟨by rfl, ?_⟩) hHeld ?_; rotate_left; (· (intro w' hSw; go_simp; try with_reducible rfl)); (try simp only [List.getElem_toArray, List.getElem_cons_zero, List.getElem_cons_succ, Act.put, List.setIfInBounds_toArray, List.set_cons_zero, List.set_cons_succ])); (refine wpAnyH_take (i := 7) (v := ?_) rfl (by kernel_rfl) (by kernel_rfl) (by kernel_rfl) (fun _ _ _ h => h) (Or.inl ⟨by rfl, ?_⟩) hHeld ?_; rotate_left; (· (intro w' hSw; go_simp; try with_reducible rfl)); (try simp only [List.getElem_toArray, List.getElem_cons_zero, List.getElem_cons_succ, Act.put, List.setIfInBounds_toArray, List.set_cons_zero, List.set_cons_succ])); (refine wpAnyH_take (i := 8) (v := ?_) rfl (by kernel_rfl) (by kernel_rfl) (by kernel_rfl) (fun _ _ _ h => h) (Or.inl ⟨by rfl, ?_⟩) hHeld ?_; rotate_left; (· (intro w' hSw; go_simp; try with_reducible rfl)); (try simp only [List.getElem_toArray, List.getElem_cons_zero, List.getElem_cons_succ, Act.put, List.setIfInBounds_toArray, List.set_cons_zero, List.set_cons_succ])); (refine wpAnyH_take (i := 9) (v := ?_) rfl (by kernel_rfl) (by kernel_rfl) (by kernel_rfl) (fun _ _ _ h => h) (Or.inl ⟨by rfl, ?_⟩) hHeld ?_; rotate_left; (· (intro w' hSw; go_simp; try with_reducible rfl)); (try simp only [List.getElem_toArray, List.getElem_cons_zero, List.getElem_cons_succ, Act.put, List.setIfInBounds_toArray, List.set_cons_zero, List.set_cons_succ]))
          refine wpAnyH_ready (rs := [3, 11]) (by kernel_rfl) (by simp) ?_
          refine AllReadyH.cons (o := _) rfl (fun K hK => ?_) (AllReadyH.cons (o := _) rfl (fun K hK => ?_) AllReadyH.nil)
          · (simp only [List.getElem_toArray, List.getElem_cons_zero, List.getElem_cons_succ, Region.wanted, if_true])
            refine wp_lookV _ _ 90 rfl playKeyed Try.underlying90 (zeroInt9 _) DM.out rfl (.agg (ints x).toArray) rfl x ROW.out KEY.out ?_
            rw [tabF_get TB.out]
            (try simp only [List.getElem_toArray, List.getElem_cons_zero, List.getElem_cons_succ, Act.put, List.setIfInBounds_toArray, List.set_cons_zero, List.set_cons_succ])
            refine hK.out _ _ hHeld (fun hHeld => ?_)
            clear hK K
            (refine wpAnyH_take (i := 10) (v := ?_) rfl (by kernel_rfl) (by kernel_rfl) (by kernel_rfl) (fun _ _ _ h => h) (Or.inl ⟨by rfl, ?_⟩) hHeld ?_; rotate_left; (· (intro w' hSw; go_simp; try with_reducible rfl)); (try simp only [List.getElem_toArray, List.getElem_cons_zero, List.getElem_cons_succ, Act.put, List.setIfInBounds_toArray, List.set_cons_zero, List.set_cons_succ]))
            (refine wpAnyH_ready (rs := [11]) (by kernel_rfl) (by simp) ?_; refine AllReadyH.cons (o := _) rfl (fun K hK => ?_) AllReadyH.nil; (simp only [List.getElem_toArray, List.getElem_cons_zero, List.getElem_cons_succ, Region.wanted, if_true]))
            refine wp_entryV _ _ 90 rfl m2 rfl _ rfl _ r1 ?_
            (try simp only [List.getElem_toArray, List.getElem_cons_zero, List.getElem_cons_succ, Act.put, List.setIfInBounds_toArray, List.set_cons_zero, List.set_cons_succ])
            refine hK.out _ _ T2 (fun hHeld => ?_)
            clear hK K
            (refine wpAnyH_take (i := 12) (v := ?_) rfl (by kernel_rfl) (by kernel_rfl) (by kernel_rfl) (fun _ _ _ h => h) (Or.inl ⟨by rfl, ?_⟩) hHeld ?_; rotate_left; (· (intro w' hSw; go_simp; try with_reducible rfl)); (try simp only [List.getElem_toArray, List.getElem_cons_zero, List.getElem_cons_succ, Act.put, List.setIfInBounds_toArray, List.set_cons_zero, List.set_cons_succ]))
            (refine wpAnyH_ready (rs := [13]) (by kernel_rfl) (by simp) ?_; refine AllReadyH.cons (o := _) rfl (fun K hK => ?_) AllReadyH.nil; (simp only [List.getElem_toArray, List.getElem_cons_zero, List.getElem_cons_succ, Region.wanted, if_true]))
            refine wp_entryStoreV _ _ _ 90 rfl m2 rfl (goInt st) (.int .i64 ((W2 x + q : Nat) : Int)) rfl rfl s1 ?_
            (try simp only [List.getElem_toArray, List.getElem_cons_zero, List.getElem_cons_succ, Act.put, List.setIfInBounds_toArray, List.set_cons_zero, List.set_cons_succ])
            refine hK.out _ _ T3 (fun hHeld => ?_)
            clear hK K hHeld r2
            refine wpAnyH_done (by kernel_rfl) ?_ _
            have N1 : Hid (PT w3 m2 (insP K2 x) (updP W2 x q)) := Lib.hid (by
              rw [PL.out] at s2
              exact OwnV.as s2 (fun l _ => PP.out l))
            have N2 := Lib.hid (DR.out.kept s3 (fun e => by have e := Option.some.inj e; omega) (fun e => by have e := Option.some.inj e; omega))
            have N3 := Lib.hid (DL.out.kept s3 (fun z hz e => by
              have h1 := Option.some.inj (show some g = some z from hz)
              have h2 := Option.some.inj e
              omega))
            have N4 := DK.grown s3 (fun e => by have e := Option.some.inj e; omega)
            have N5 := DZ.grown s3 (fun e => by have e := Option.some.inj e; omega)
            have N6 : Hid (Kept w w3) := Lib.hid (DB.out.grown s3 DB.out.size (fun j hj => by have hj := Option.some.inj hj; omega))
            clear r1 r3 s1 s2 s3 DM DR DL DK DZ DB T2 T3 DH td wq wm ws
            go_wp2_with fail
            go_roundg (u - (i + 1))
            case rel => exact ⟨i + 1, _, _, rfl, by omega, by go_num, AS, N1, N2, N3, N4, N5, N6⟩
            case measure => omega
          · (simp only [List.getElem_toArray, List.getElem_cons_zero, List.getElem_cons_succ, Region.wanted, if_true])
            refine wp_entryV _ _ 90 rfl m2 rfl _ rfl _ r1 ?_
            (try simp only [List.getElem_toArray, List.getElem_cons_zero, List.getElem_cons_succ, Act.put, List.setIfInBounds_toArray, List.set_cons_zero, List.set_cons_succ])
            refine hK.out _ _ T2 (fun hHeld => ?_)
            clear hK K
            (refine wpAnyH_take (i := 12) (v := ?_) rfl (by kernel_rfl) (by kernel_rfl) (by kernel_rfl) (fun _ _ _ h => h) (Or.inl ⟨by rfl, ?_⟩) hHeld ?_; rotate_left; (· (intro w' hSw; go_simp; try with_reducible rfl)); (try simp only [List.getElem_toArray, List.getElem_cons_zero, List.getElem_cons_succ, Act.put, List.setIfInBounds_toArray, List.set_cons_zero, List.set_cons_succ]))
            (refine wpAnyH_ready (rs := [3]) (by kernel_rfl) (by simp) ?_; refine AllReadyH.cons (o := _) rfl (fun K hK => ?_) AllReadyH.nil; (simp only [List.getElem_toArray, List.getElem_cons_zero, List.getElem_cons_succ, Region.wanted, if_true]))
            refine wp_lookV _ _ 90 rfl playKeyed Try.underlying90 (zeroInt9 _) r2 rfl (.agg (ints x).toArray) rfl x ROW.out KEY.out ?_
            rw [show (mapPut (tabF K2 W2) x ((tabF K2 W2 x).getD (.int .i64 0)) x).getD (.int .i64 0) = .int .i64 (W2 x : Nat) by unfold mapPut; rw [if_pos rfl, tabF_get TB.out]; rfl]
            (try simp only [List.getElem_toArray, List.getElem_cons_zero, List.getElem_cons_succ, Act.put, List.setIfInBounds_toArray, List.set_cons_zero, List.set_cons_succ])
            refine hK.out _ _ hHeld (fun hHeld => ?_)
            clear hK K
            (refine wpAnyH_take (i := 10) (v := ?_) rfl (by kernel_rfl) (by kernel_rfl) (by kernel_rfl) (fun _ _ _ h => h) (Or.inl ⟨by rfl, ?_⟩) hHeld ?_; rotate_left; (· (intro w' hSw; go_simp; try with_reducible rfl)); (try simp only [List.getElem_toArray, List.getElem_cons_zero, List.getElem_cons_succ, Act.put, List.setIfInBounds_toArray, List.set_cons_zero, List.set_cons_succ]))
            (refine wpAnyH_ready (rs := [13]) (by kernel_rfl) (by simp) ?_; refine AllReadyH.cons (o := _) rfl (fun K hK => ?_) AllReadyH.nil; (simp only [List.getElem_toArray, List.getElem_cons_zero, List.getElem_cons_succ, Region.wanted, if_true]))
            refine wp_entryStoreV _ _ _ 90 rfl m2 rfl (goInt st) (.int .i64 ((W2 x + q : Nat) : Int)) rfl rfl s1 ?_
            (try simp only [List.getElem_toArray, List.getElem_cons_zero, List.getElem_cons_succ, Act.put, List.setIfInBounds_toArray, List.set_cons_zero, List.set_cons_succ])
            refine hK.out _ _ T3 (fun hHeld => ?_)
            clear hK K hHeld r2
            refine wpAnyH_done (by kernel_rfl) ?_ _
            have N1 : Hid (PT w3 m2 (insP K2 x) (updP W2 x q)) := Lib.hid (by
              rw [PL.out] at s2
              exact OwnV.as s2 (fun l _ => PP.out l))
            have N2 := Lib.hid (DR.out.kept s3 (fun e => by have e := Option.some.inj e; omega) (fun e => by have e := Option.some.inj e; omega))
            have N3 := Lib.hid (DL.out.kept s3 (fun z hz e => by
              have h1 := Option.some.inj (show some g = some z from hz)
              have h2 := Option.some.inj e
              omega))
            have N4 := DK.grown s3 (fun e => by have e := Option.some.inj e; omega)
            have N5 := DZ.grown s3 (fun e => by have e := Option.some.inj e; omega)
            have N6 : Hid (Kept w w3) := Lib.hid (DB.out.grown s3 DB.out.size (fun j hj => by have hj := Option.some.inj hj; omega))
            clear r1 r3 s1 s2 s3 DM DR DL DK DZ DB T2 T3 DH td wq wm ws
            go_wp2_with fail
            go_roundg (u - (i + 1))
            case rel => exact ⟨i + 1, _, _, rfl, by omega, by go_num, AS, N1, N2, N3, N4, N5, N6⟩
            case measure => omega
        · obtain rfl : i = u := by omega
          have OS := Lib.hid (ST.out K2 W2 GA.out)
          go_wp2_with fail
          go_roundg cnt'
          case rel => exact ⟨cnt', f :: seen, K2, W2, rfl, GR, GM, OS, BK, Z, GB⟩
          case measure => exact GXL.out
end Go.Proofs.Ytemiljokdedidac.base
end

section
namespace Go.Proofs.Ytemiljokdedidac.base
open Go.ChangeShapes Go.WideShapes Go.ChangeAt Go.RowKit
set_option linter.unusedVariables false
set_option linter.unusedSimpArgs false

section
variable {P : Program} {w : World} {ops : Array Oper} {rest : List Oper} {o : Oper} {a : Act} {Q : Exit → Act → World → Prop}
theorem insert9 (hg : o.guard = none) (m x v : Operand) (t : TypeId) (hop : o.op = Op.insert t m x v) (K' e : TypeId) (KL : Go.Maps.Keyed P K') (ht : P.underlying t = some (.map K' e))
    (b n L : Nat) (f : List Int → Option Value) (hown : OwnV P w K' b n L f) (hn : n < maxLen) (hm : a.eval m = .map (some b)) (key val : Value) (hx : a.eval x = key) (hv : a.eval v = val) (r : List Int) (hr : KeyRow L r) (hkey : keyOf P K' key = some (keyL r))
    (h : ∀ w', OwnV P w' K' b (if (f r).isSome then n else n + 1) L (mapPut f r val) → w.grownBy w' (some b) → w'.heap.size = w.heap.size → wpList P ops Q rest (a.put o.dst undef) w') : wpList P ops Q (o :: rest) a w := by
  refine wpList_plain hg fun K9 hK9 => ?_
  obtain ⟨w', hrun, r1, r2⟩ := hown.store (val := val) KL ht hn hr hkey
  have hsz : w'.heap.size = w.heap.size := by
    obtain ⟨D, ⟨es, c, hb, F, hs, hD⟩, h2⟩ := hown
    have h1 := @Go.MapKept.run_getObj_map
    have : ∀ (w1 : World), (Instr.mapUpdate t (.map (some b)) key val).run P w = .ok () w1 → w1.heap.size = w.heap.size := fun w1 hw1 => by
      have hks : ∀ x ∈ es.toList, ∃ l, keyOf P K' x.key = some l := fun x hx => by
        obtain ⟨y, hy⟩ := F.reads x hx
        exact ⟨_, WideElems.rd_key hy⟩
      rcases KL.find w hkey es.toList hks with ⟨h1, _⟩ | ⟨j, e0, h1, h2, h3⟩
      · simp [Instr.mapUpdate, run_underlying ht, MapKept.run_getObj_map hb, KL.check w false hkey, h1, MapKept.run_setObj_map _ hb, Result.andThen] at hw1
        rw [← hw1]; simp
      · have hj : es[j]? = some e0 := by simpa using h2
        simp [Instr.mapUpdate, run_underlying ht, MapKept.run_getObj_map hb, KL.check w false hkey, h1, hj, h3, KL.stays w hkey, MapKept.run_setObj_map _ hb, Result.andThen] at hw1
        rw [← hw1]; simp
    exact this w' hrun
  unfold Oper.wp
  simp only [execOp, hop, hm, hx, hv, hrun, Result.andThen, Sem.run_bind, Result.andThen_ok, Sem.run_pure]
  exact hK9 _ _ (h w' r1 r2 hsz)
end
theorem build92z (w : World) : (Instr.build 92 #[]).run Try.prog w = .ok (.agg z92.toArray) w := by kernel_rfl
/-- The plays behind n pours, or that there are none to be told. -/
def BhOk (r : List Int) (n : Int) : Bool := vR r && decide (0 ≤ n ∧ n ≤ 2)
def BhPost (r : List Int) (n : Int) (w : World) (e : Ending) (w' : World) : Prop :=
  ((BhOk r n = true ∧ ∃ (all mb : Nat) (K : List (List Int)) (W : List Int → Nat), e = .returned (.tuple #[.agg (plC all mb).toArray, .bool true]) ∧ PT w' mb K W ∧ Behind n.toNat r all K W) ∨
    (BhOk r n = false ∧ e = .returned (.tuple #[.agg z92.toArray, .bool false]))) ∧ Kept w w'
theorem plC_one (all b : Nat) : ∀ v ∈ plC all b, v.oneCell' = true := by
  intro v hv
  unfold plC at hv
  simp only [List.mem_cons, List.not_mem_nil, or_false] at hv
  rcases hv with rfl | rfl <;> rfl

set_option maxHeartbeats 3200000 in
set_option maxRecDepth 100000 in
theorem behind_any (r : List Int) (n : Int) (w : World) (h24 : r.length = 24) :
    Calls Try.prog 69 #[row r, .int .i64 n] w (BhPost r n w) := by
  have hmm := @run_makeMap Try.prog
  have H := (Has.box w 42 h24 (by omega)).alloc (.cells z92.toArray 92)
  have Z := (Bk.box (w.alloc (.cells (ints r).toArray 42)) z92 92).at (size1 _ _)
  have HB := Lib.hid (((kept_refl w).alloc (.cells (ints r).toArray 42)).alloc (.cells z92.toArray 92))
  rw [row_ints]
  go_enter Try.func69, Try.ntmps69
  go_wp2_with (refine load_has rfl 42 _ rfl _ rfl ?_ 24 ?_ _ Try.underlying42 rfl ?_ ?_; rotate_left; (· (repeat (first | (with_reducible assumption) | ((with_reducible refine Has.box _ _ ?_ ?_) <;> (first | assumption | decide)) | (with_reducible refine Has.alloc ?_ _) | ((with_reducible refine Has.putOther ?_ _ _ ?_); rotate_left; omega; skip) | ((with_reducible refine Has.below ?_ ?_); rotate_left; assumption)))); (· kernel_rfl))
  refine (isRack_any r _ h24).mono ?_
  rintro e w1 ⟨rfl, b1⟩
  replace H := H.below b1
  replace Z := Z.below b1
  replace HB := Lib.hid (HB.out.call b1)
  have zz : ∀ v ∈ z92, v.oneCell' = true := by
    intro v hv
    unfold z92 at hv
    simp only [List.mem_cons, List.not_mem_nil, or_false] at hv
    rcases hv with rfl | rfl <;> rfl
  have S0 := Lib.hid (Z.putAll z92 rfl)
  have S1 := Lib.hid (HB.out.puts (b := w.heap.size + 1) (by omega) 0 z92)
  clear b1
  by_cases hv : vR r = true
  rotate_left
  · have hf : vR r = false := by simpa using hv
    have E := Lib.hid (show BhOk r n = false by unfold BhOk; rw [hf]; rfl)
    rw [hf]
    clear hv hf
    go_wp2_with (first | (refine build_law rfl 92 rfl _ build92z ?_) | (refine store_bk rfl 92 _ _ rfl _ rfl z92 rfl _ _ Z rfl zz ?_ ?_; (· kernel_rfl)))
    exact bodyPost_ret (res_bk1 rfl _ _ (w.heap.size + 1) z92 _ _ (.bool false) rfl rfl S0.out Try.underlying92 rfl (by kernel_rfl)) rfl ⟨.inr ⟨E.out, rfl⟩, S1.out⟩
  by_cases hn0 : n < 0
  · have d0 : decide (n < 0) = true := decide_eq_true hn0
    have E := Lib.hid (show BhOk r n = false by unfold BhOk; rw [decide_eq_false (show ¬ (0 ≤ n ∧ n ≤ 2) by omega)]; simp)
    rw [hv]
    clear hv hn0
    go_wp2_with (first | (refine build_law rfl 92 rfl _ build92z ?_) | (refine store_bk rfl 92 _ _ rfl _ rfl z92 rfl _ _ Z rfl zz ?_ ?_; (· kernel_rfl)))
    exact bodyPost_ret (res_bk1 rfl _ _ (w.heap.size + 1) z92 _ _ (.bool false) rfl rfl S0.out Try.underlying92 rfl (by kernel_rfl)) rfl ⟨.inr ⟨E.out, rfl⟩, S1.out⟩
  by_cases hn2 : 2 < n
  · have d0 : decide (n < 0) = false := decide_eq_false hn0
    have d2 : decide (2 < n) = true := decide_eq_true hn2
    have E := Lib.hid (show BhOk r n = false by unfold BhOk; rw [decide_eq_false (show ¬ (0 ≤ n ∧ n ≤ 2) by omega)]; simp)
    rw [hv]
    clear hv hn0 hn2
    go_wp2_with (first | (refine build_law rfl 92 rfl _ build92z ?_) | (refine store_bk rfl 92 _ _ rfl _ rfl z92 rfl _ _ Z rfl zz ?_ ?_; (· kernel_rfl)))
    exact bodyPost_ret (res_bk1 rfl _ _ (w.heap.size + 1) z92 _ _ (.bool false) rfl rfl S0.out Try.underlying92 rfl (by kernel_rfl)) rfl ⟨.inr ⟨E.out, rfl⟩, S1.out⟩
  have d0 : decide (n < 0) = false := decide_eq_false hn0
  have d2 : decide (2 < n) = false := decide_eq_false hn2
  have E := Lib.hid (show BhOk r n = true by unfold BhOk; rw [hv, decide_eq_true (show 0 ≤ n ∧ n ≤ 2 by omega)]; rfl)
  obtain ⟨N, rfl⟩ : ∃ N : Nat, n = (N : Int) := ⟨n.toNat, by omega⟩
  have N2 : N ≤ 2 := by omega
  have G : GR r := ⟨h24, hv⟩
  have B0 := Lib.hid (behind0 G)
  have ROW := Lib.hid (rack_row9 G)
  have KEY := Lib.hid (play_key ROW.out)
  rw [hv]
  clear hv hn0 hn2 S0 S1 zz
  have M0 : OwnV Try.prog (w1.alloc (.map #[] 0)) 38 w1.heap.size 0 24 (fun _ => none) := OwnV.made w1 Try.prog 38 24
  have hbz := Z.lt
  have HH := H.alloc (.map #[] 0)
  replace Z := Z.alloc (.map #[] 0)
  replace HB := Lib.hid (HB.out.alloc (.map #[] 0))
  go_upto_region 4 with (first | (refine load_has rfl 38 _ rfl _ rfl ?_ 24 ?_ _ Try.underlying38 rfl ?_ ?_; rotate_left; (· (repeat (first | (with_reducible assumption) | ((with_reducible refine Has.box _ _ ?_ ?_) <;> (first | assumption | decide)) | (with_reducible refine Has.alloc ?_ _) | ((with_reducible refine Has.putOther ?_ _ _ ?_); rotate_left; omega; skip) | ((with_reducible refine Has.below ?_ ?_); rotate_left; assumption)))); (· kernel_rfl)) | (refine insert9 rfl _ _ _ 90 rfl 38 3 playKeyed Try.underlying90 w1.heap.size 0 24 _ M0 (by unfold maxLen; omega) rfl (.agg (ints r).toArray) (.int .i64 1) rfl rfl r ROW.out KEY.out ?_; intro w2 q2 g2 z2) | (refine store_newbk rfl 92 _ _ rfl w2 z92.toArray 92 rfl _ rfl (plC 1 w1.heap.size) rfl rfl rfl (plC_one _ _) ?_ ?_; (· kernel_rfl)))
  obtain ⟨V, hV⟩ : ∃ V, V = w2.alloc (.cells #[.int .i64 1, .map (some w1.heap.size)] 92) := ⟨_, rfl⟩
  rw [← hV]
  have hz2 : w2.heap.size = w1.heap.size + 1 := by rw [z2]; simp
  have BP : Bk V (w1.heap.size + 1) (plC 1 w1.heap.size) 92 := by rw [hV]; exact (Bk.box w2 (plC 1 w1.heap.size) 92).at hz2
  have PM : PT w2 w1.heap.size [r] (fun l => if l = r then 1 else 0) := OwnV.as (m := mapPut (fun _ => none) r (.int .i64 1)) (show OwnV Try.prog w2 38 w1.heap.size 1 24 (mapPut (fun _ => none) r (.int .i64 1)) from q2) (fun l _ => by
    unfold mapPut tabF
    by_cases e : l = r
    · subst e
      rw [if_pos rfl, if_pos (List.mem_singleton.2 rfl)]
      show some (Value.int .i64 1) = some (Value.int .i64 ((if l = l then 1 else 0 : Nat) : Int))
      rw [if_pos rfl]; rfl
    · rw [if_neg e, if_neg (fun h => e (List.mem_singleton.1 h))])
  have PM2 : Hid (PT V w1.heap.size [r] (fun l => if l = r then 1 else 0)) := Lib.hid (by rw [hV]; exact PM.alloc _)
  have Z2 : Bk V (w.heap.size + 1) z92 92 := by rw [hV]; exact (Z.grown g2 (fun e => by have e := Option.some.inj e; omega)).alloc _
  have HB2 : Hid (Kept w V) := Lib.hid (by
    have K2 : Kept w w2 := HB.out.grown g2 HB.out.size (fun j hj => by have hj := Option.some.inj hj; omega)
    rw [hV]; exact K2.alloc _)
  obtain ⟨m1, hm1⟩ : ∃ m1, w1.heap.size = m1 := ⟨_, rfl⟩
  rw [hm1] at BP PM2 hbz ⊢
  have EE := Lib.hid E.out
  clear hV hz2 PM q2 g2 z2 H HH Z HB M0 hm1 hmm
  go_wp2_with fail
  go_loopw [25] (fun z wr => ∃ (k all mb : Nat) (K : List (List Int)) (W : List Int → Nat), k ≤ N ∧ z = .int .i64 k ∧ Hid (Behind k r all K W) ∧ Hid (k = 0 → all = 1 ∧ K = [r] ∧ W r = 1) ∧ Hid (PT wr mb K W) ∧ Bk wr (m1 + 1) (plC all mb) 92 ∧ Bk wr (w.heap.size + 1) z92 92 ∧ mb ≠ m1 + 1 ∧ mb ≠ w.heap.size + 1 ∧ Hid (Kept w wr)) (fun z _ => N - (intOf z).toNat)
  case atStart => exact ⟨0, 1, m1, [r], _, by omega, rfl, B0, Lib.hid (fun _ => ⟨rfl, rfl, if_pos rfl⟩), PM2, BP, Z2, by omega, by omega, HB2⟩
  case round =>
    clear B0 PM2 BP Z2 HB2
    obtain ⟨k, all, mb, K, W, hk, rfl, BH, FI, GM, BP, Z, hmb, hmc, GB⟩ := hrel
    by_cases hkN : k < N
    · have hki : (k : Int) < (N : Int) := by omega
      have k2 : k < 2 := by omega
      have KO := Lib.hid (fun U (h : PT U mb K W) => pourOn_any all mb K W U BH.out.tab h BH.out.one (BH.out.less k2) (by
        have h1 := BH.out.len
        have : k = 0 ∨ k = 1 := by omega
        rcases this with rfl | rfl
        · have : (30 : Nat) ^ 0 = 1 := by decide
          omega
        · have : (30 : Nat) ^ 1 = 30 := by decide
          omega))
      have hbl := BP.lt
      go_wp2_with (refine load_bk rfl 92 _ rfl _ rfl _ _ BP _ Try.underlying92 rfl (by kernel_rfl) ?_)
      refine (KO.out _ GM.out).mono ?_
      rintro e w3 ⟨⟨mb2, c, K2, W2, rfl, q3, hge, ON, one⟩, b3⟩
      have BN : Hid (Behind (k + 1) r (all * c) K2 W2) := Lib.hid (by
        have : k = 0 ∨ k = 1 := by omega
        rcases this with rfl | rfl
        · obtain ⟨f1, f2, f3⟩ := FI.out rfl
          exact onward1 BH.out ON (one r f2) f2 f3 f1
        · exact onward2 BH.out ON)
      have FI2 : Hid (k + 1 = 0 → all * c = 1 ∧ K2 = [r] ∧ W2 r = 1) := Lib.hid (fun h => by omega)
      replace BP := BP.below b3
      replace Z := Z.below b3
      replace GB := Lib.hid (GB.out.call b3)
      have BP2 := Lib.hid (BP.putAll (plC (all * c) mb2) rfl)
      have Z2 := Lib.hid (Z.putOther (q := m1 + 1) 0 (plC (all * c) mb2) (by omega))
      have GM2 : Hid (PT (w3.setCells (m1 + 1) 0 (plC (all * c) mb2)) mb2 K2 W2) := Lib.hid (OwnV.puts (by omega) _ _ _ q3)
      have GB2 := Lib.hid (GB.out.puts (b := m1 + 1) (by omega) 0 (plC (all * c) mb2))
      have hne1 : mb2 ≠ m1 + 1 := by omega
      have hne2 : mb2 ≠ w.heap.size + 1 := by omega
      clear b3 q3 ON one KO GM GB BH FI
      go_wp2_with (refine store_bk rfl 92 _ _ rfl _ rfl (plC (all * c) mb2) rfl _ _ BP rfl (plC_one _ _) ?_ ?_; (· kernel_rfl))
      go_roundw
      case rel => exact ⟨k + 1, all * c, mb2, K2, W2, by omega, by go_num, BN, FI2, GM2, BP2.out, Z2.out, hne1, hne2, GB2⟩
      case measure => simp [intOf]; omega
    · obtain rfl : k = N := by omega
      have S1 := Lib.hid (Z.putAll (plC all mb) rfl)
      have S2 : Hid (PT (wr.setCells (w.heap.size + 1) 0 (plC all mb)) mb K W) := Lib.hid (OwnV.puts (by omega) _ _ _ GM.out)
      have S3 := Lib.hid (GB.out.puts (b := w.heap.size + 1) (by omega) 0 (plC all mb))
      go_wp2_with (first | (refine load_bk rfl 92 _ rfl _ rfl _ _ BP _ Try.underlying92 rfl (by kernel_rfl) ?_) | (refine store_bk rfl 92 _ _ rfl _ rfl (plC all mb) rfl _ _ Z rfl (plC_one _ _) ?_ ?_; (· kernel_rfl)))
      exact bodyPost_ret (res_bk1 rfl _ _ (w.heap.size + 1) (plC all mb) _ _ (.bool true) rfl rfl S1.out Try.underlying92 rfl (by kernel_rfl)) rfl ⟨.inl ⟨EE.out, all, mb, K, W, rfl, S2.out, by rw [Int.toNat_natCast]; exact BH.out⟩, S3.out⟩
end Go.Proofs.Ytemiljokdedidac.base
end

section
namespace Go.Proofs.Ytemiljokdedidac.base
open Go.ChangeShapes Go.WideShapes Go.ChangeAt Go.RowKit
set_option linter.unusedVariables false
set_option linter.unusedSimpArgs false

/-- The mean behind n pours, in lowest terms. -/
def mnA (r : List Int) (n : Int) (g : List Int → Nat) : List Int := if BhOk r n = true then frac (numP n.toNat g r) (denP n.toNat r) else z2
theorem mnA_len (r : List Int) (n : Int) (g : List Int → Nat) : (mnA r n g).length = 2 := by unfold mnA; split <;> rfl
theorem bh_ok {r : List Int} {n : Int} (h : BhOk r n = true) : vR r = true ∧ 0 ≤ n ∧ n ≤ 2 := by
  unfold BhOk at h
  simp only [Bool.and_eq_true, decide_eq_true_eq] at h
  exact ⟨h.1, h.2.1, h.2.2⟩
theorem mn_cut {r : List Int} {n : Int} {all : Nat} {K : List (List Int)} {W : List Int → Nat} (h : BhOk r n = true) (B : Behind n.toNat r all K W) (g : List Int → Nat) : frac (tot K W g) all = mnA r n g := by
  obtain ⟨_, h0, h2⟩ := bh_ok h
  have hc := behind_cut B g (by omega)
  unfold mnA frac
  rw [if_pos h, hc.1, hc.2]

set_option maxHeartbeats 3200000 in
set_option maxRecDepth 100000 in
theorem mean_any1 (F : Nat) (s : Nat) (g : List Int → Nat) (r : List Int) (n : Int) (w : World) (h24 : r.length = 24) (hg : ∀ x, GR x → g x ≤ 24)
    (KF : ∀ V : World, Kept w V → ∀ x : List Int, GR x → Calls Try.prog F #[.agg (ints x).toArray, .pointer (some ⟨s, 0, none⟩)] V fun e w' => e = .returned (.int .i64 (g x : Nat)) ∧ Kept V w')
    (FN : ∀ (x : List Int) (V : World), (callFunc F #[.agg (ints x).toArray, .pointer (some ⟨s, 0, none⟩)]).run Try.prog V = .ok (.enter F #[.agg (ints x).toArray, .pointer (some ⟨s, 0, none⟩)]) V) :
    Calls Try.prog 53 #[row r, .int .i64 n, .func (Fn.func F) #[] #[.pointer (some ⟨s, 0, none⟩)]] w fun e w' => e = .returned (.tuple #[.agg (ints (mnA r n g)).toArray, .bool (BhOk r n)]) ∧ Kept w w' := by
  have H := (Has.box w 42 h24 (by omega)).alloc (.cells #[.int .i64 0, .int .i64 0] 33)
  have Z := (Has.zero2v (w.alloc (.cells (ints r).toArray 42)) 33).at (size1 _ _)
  have HB := Lib.hid (((kept_refl w).alloc (.cells (ints r).toArray 42)).alloc (.cells #[.int .i64 0, .int .i64 0] 33))
  have KFH := Lib.hid KF
  have HGG := Lib.hid hg
  rw [row_ints]
  clear KF hg
  go_enter Try.func53, Try.ntmps53
  go_wp2_with (refine load_has rfl 42 _ rfl _ rfl ?_ 24 ?_ _ Try.underlying42 rfl ?_ ?_; rotate_left; (· (repeat (first | (with_reducible assumption) | ((with_reducible refine Has.box _ _ ?_ ?_) <;> (first | assumption | decide)) | (with_reducible refine Has.alloc ?_ _) | ((with_reducible refine Has.putOther ?_ _ _ ?_); rotate_left; omega; skip) | ((with_reducible refine Has.below ?_ ?_); rotate_left; assumption)))); (· kernel_rfl))
  refine (behind_any r n _ h24).mono ?_
  rintro e w1 ⟨hp, b1⟩
  replace Z := Z.below b1
  replace HB := Lib.hid (HB.out.call b1)
  clear H b1
  rcases hp with ⟨hok, all, mb, K, W, rfl, q1, BH⟩ | ⟨hno, rfl⟩
  rotate_left
  · have E := Lib.hid (show BhOk r n = false ∧ mnA r n g = z2 from ⟨hno, by unfold mnA; rw [hno]; rfl⟩)
    have BP := Bk.box w1 z92 92
    have zz : ∀ v ∈ z92, v.oneCell' = true := by
      intro v hv
      unfold z92 at hv
      simp only [List.mem_cons, List.not_mem_nil, or_false] at hv
      rcases hv with rfl | rfl <;> rfl
    have Z2 := Z.alloc (.cells z92.toArray 92)
    have S1 := Lib.hid (Z2.putAll z2 rfl)
    have S2 := Lib.hid ((HB.out.alloc (.cells z92.toArray 92)).puts (b := w.heap.size + 1) (by omega) 0 (ints z2))
    clear hno
    go_wp2_with (first | (refine store_newbk rfl 92 _ _ rfl w1 z92.toArray 92 rfl _ rfl z92 rfl rfl rfl zz ?_ ?_; (· kernel_rfl)) | (refine build_law rfl 33 rfl _ build2z ?_) | (refine store_at rfl 33 _ _ rfl _ _ rfl rfl ?_ 2 ?_ ?_ ?_ ?_; rotate_left; (· (repeat (first | (with_reducible assumption) | ((with_reducible refine Has.box _ _ ?_ ?_) <;> (first | assumption | decide)) | (with_reducible refine Has.alloc ?_ _) | ((with_reducible refine Has.putOther ?_ _ _ ?_); rotate_left; omega; skip) | ((with_reducible refine Has.below ?_ ?_); rotate_left; assumption)))); (· (first | assumption | rfl)); (· kernel_rfl)))
    exact bodyPost_ret (res_has1 rfl _ _ (w.heap.size + 1) z2 2 _ (.bool false) rfl rfl S1.out Try.underlying33 rfl (by kernel_rfl)) rfl ⟨by rw [E.out.1, E.out.2], S2.out⟩
  have E := Lib.hid (show BhOk r n = true ∧ mnA r n g = frac (tot K W g) all from ⟨hok, (mn_cut hok BH g).symm⟩)
  have TB := Lib.hid BH.tab
  have TG := Lib.hid (show ∀ x ∈ K, GR x from fun x hx => BH.tab.good x hx)
  have TL := behind_le BH g (fun x hx => HGG.out x (BH.tab.good x hx))
  have ap := BH.pos
  have al := BH.le
  have WL := Lib.hid (show ∀ x, W x ≤ all from fun x => by have h1 := tab_le BH.tab x; rw [BH.one] at h1; exact h1)
  have KF := Lib.hid (fun V => fraction_any (tot K W g) all V ap (by omega) (by omega))
  have fl := frac_len (tot K W g) all
  have BP := Bk.box w1 (plC all mb) 92
  have Z2 := Z.alloc (.cells (plC all mb).toArray 92)
  have PM := q1.alloc (.cells (plC all mb).toArray 92)
  have HB2 := Lib.hid (HB.out.alloc (.cells (plC all mb).toArray 92))
  have c1 := BP.cell 1 (v := .map (some mb)) rfl
  have hzz := Z.lt
  have hmb := q1.lt
  clear hok Z HB q1 BH
  go_upto_region 4 with (refine store_newbk rfl 92 _ _ rfl w1 z92.toArray 92 rfl _ rfl (plC all mb) rfl rfl rfl (plC_one _ _) ?_ ?_; (· kernel_rfl))
  go_wp2_with (at_range; refine rg_start rfl _ rfl mb K W PM rfl ?_; intro w6 hR hgr hsz)
  go_frame
  replace BP := BP.grown hgr (by simp)
  replace Z2 := Z2.grownNo hgr (by simp)
  replace HB2 : Hid (Kept w w6) := Lib.hid (HB2.out.grown hgr HB2.out.size (fun j hj => by cases hj))
  obtain ⟨cnt0, hR⟩ := hR
  replace hR := Lib.hid hR
  obtain ⟨pb, hpb⟩ : ∃ pb, w1.heap.size = pb := ⟨_, rfl⟩
  have hr5 : (w1.alloc (.cells (plC all mb).toArray 92)).heap.size = pb + 1 := by rw [size1, hpb]
  rw [hr5] at hR ⊢
  rw [hpb] at BP hzz hmb ⊢
  clear hgr hsz PM c1 hpb hr5
  go_loopg [10] cnt0 (fun gk s10 wr => ∃ (cnt : Nat) (seen : List (List Int)) (y : Nat), gk = cnt ∧ s10 = .int .i64 (y : Nat) ∧ Hid (y = fsum (fun l => W l * g l) seen) ∧ Hid (Rg wr mb (pb + 1) K W seen cnt) ∧ Bk wr pb (plC all mb) 92 ∧ Has wr (w.heap.size + 1) z2 2 ∧ Hid (Kept w wr))
  case atStart => exact ⟨cnt0, [], 0, rfl, rfl, Lib.hid rfl, hR, BP, Z2, HB2⟩
  case round =>
    clear hR BP Z2 HB2
    obtain ⟨cnt, seen, y, rfl, rfl, HY, GR', BP, Z, GB⟩ := hrel
    go_wp2_with (at_next; refine rg_step rfl _ rfl mb (pb + 1) gk K W TB.out seen GR'.out rfl ?_ ?_)
    · intro hall
      have EY : y = tot K W g := by rw [HY.out]; exact fsum_all _ GR'.out.nodup TB.out.nodup hall
      subst EY
      have c0 := BP.cell 0 (v := .int .i64 (all : Nat)) rfl
      clear hall GR' HY
      go_wp2_with fail
      refine (KF.out _).mono ?_
      rintro e w9 ⟨rfl, b9⟩
      replace Z := Z.below b9
      have S1 := Lib.hid (Z.putAll (frac (tot K W g) all) fl)
      have S2 := Lib.hid ((GB.out.call b9).puts (b := w.heap.size + 1) (by omega) 0 (ints (frac (tot K W g) all)))
      clear b9 BP GB c0
      go_wp2_with (refine store_at rfl 33 _ _ rfl _ _ rfl rfl ?_ 2 ?_ ?_ ?_ ?_; rotate_left; (· (repeat (first | (with_reducible assumption) | ((with_reducible refine Has.box _ _ ?_ ?_) <;> (first | assumption | decide)) | (with_reducible refine Has.alloc ?_ _) | ((with_reducible refine Has.putOther ?_ _ _ ?_); rotate_left; omega; skip) | ((with_reducible refine Has.below ?_ ?_); rotate_left; assumption)))); (· (first | assumption | rfl)); (· kernel_rfl))
      exact bodyPost_ret (res_has1 rfl _ _ (w.heap.size + 1) (frac (tot K W g) all) 2 _ (.bool true) rfl rfl S1.out Try.underlying33 rfl (by kernel_rfl)) rfl ⟨by rw [E.out.1, E.out.2], S2.out⟩
    · intro f w7 cnt' hf hfs hR7 hlt hgr hsz hen
      have gf := TG.out f hf
      have f24 := gf.1
      have HY2 := Lib.hid (show y + W f * g f = fsum (fun l => W l * g l) (f :: seen) by rw [fsum_cons, HY.out]; omega)
      have hsub : fsum (fun l => W l * g l) (f :: seen) ≤ tot K W g := fsum_sub _ (List.nodup_cons.2 ⟨hfs, GR'.out.nodup⟩) (fun x hx => by
        rcases List.mem_cons.1 hx with rfl | hx
        · exact hf
        · exact GR'.out.sub x hx)
      rw [← HY2.out] at hsub
      have wf := WL.out f
      have gg := HGG.out f gf
      have KN := Lib.hid (fun V (h : Kept w V) => KFH.out V h f gf)
      have hLT := Lib.hid hlt
      have hpl := BP.lt
      have hzl := Z.lt
      have hrl := GR'.out.lt.1
      replace BP := BP.grown hgr (fun e => by have e := Option.some.inj e; omega)
      replace Z := Z.grownNo hgr (fun e => by have e := Option.some.inj e; omega)
      replace GB : Hid (Kept w w7) := Lib.hid (GB.out.grown hgr GB.out.size (fun j hj => by have hj := Option.some.inj hj; omega))
      have GR7 := Lib.hid (hR7.alloc (.cells (ints f).toArray 38))
      replace BP := BP.alloc (.cells (ints f).toArray 38)
      replace Z := Z.alloc (.cells (ints f).toArray 38)
      replace GB := Lib.hid (GB.out.alloc (.cells (ints f).toArray 38))
      have GY := Has.box w7 38 f24 (by omega)
      have m1 : W f * g f ≤ (30 * 2329089562800) * 24 := Nat.mul_le_mul (by omega) gg
      have wm : IntKind.i64.wrap (((W f : Nat) : Int) * ((g f : Nat) : Int)) = ((W f * g f : Nat) : Int) := by
        rw [← Int.natCast_mul]; exact IntWalk.i64_in _ (by omega)
      have ws : IntKind.i64.wrap ((y : Int) + ((W f * g f : Nat) : Int)) = ((y + W f * g f : Nat) : Int) := by rw [IntWalk.i64_in _ (by omega)]; omega
      have FNf := FN f
      clear hR7 hgr hsz hf hfs GR' HY hlt hsub m1
      go_upto_region 8 with (refine store_new rfl 38 _ _ rfl _ _ _ rfl _ rfl _ rfl rfl ?_ ?_ ?_; (· (first | assumption | rfl)); (· kernel_rfl))
      generalize w7.alloc (.cells (ints f).toArray 38) = W8 at *
      go_wp2_with (first | (refine load_has rfl 38 _ rfl _ rfl ?_ 24 ?_ _ Try.underlying38 rfl ?_ ?_; rotate_left; (· (repeat (first | (with_reducible assumption) | ((with_reducible refine Has.box _ _ ?_ ?_) <;> (first | assumption | decide)) | (with_reducible refine Has.alloc ?_ _) | ((with_reducible refine Has.putOther ?_ _ _ ?_); rotate_left; omega; skip) | ((with_reducible refine Has.below ?_ ?_); rotate_left; assumption)))); (· kernel_rfl)) | (refine build_lawX rfl 42 _ rfl (.agg (ints f).toArray) (.agg (ints f).toArray) rfl (buildRackX f f24) ?_))
      refine (KN.out _ GB.out).mono ?_
      rintro e w9 ⟨rfl, b9⟩
      replace GR7 := Lib.hid (GR7.out.below b9)
      replace BP := BP.below b9
      replace Z := Z.below b9
      replace GB := Lib.hid (GB.out.call b9)
      clear b9 GY KN
      generalize W f * g f = m at *
      obtain ⟨u, hu⟩ : ∃ u, u = y + m := ⟨_, rfl⟩
      rw [← hu] at ws HY2
      clear hu
      go_wp2_with fail
      go_roundg cnt'
      case rel => exact ⟨cnt', f :: seen, u, rfl, rfl, HY2, GR7, BP, Z, GB⟩
      case measure => exact hLT.out

set_option maxHeartbeats 3200000 in
set_option maxRecDepth 100000 in
theorem mean_any0 (F : Nat) (g : List Int → Nat) (r : List Int) (n : Int) (w : World) (h24 : r.length = 24) (hg : ∀ x, GR x → g x ≤ 24)
    (KF : ∀ V : World, Kept w V → ∀ x : List Int, GR x → Calls Try.prog F #[.agg (ints x).toArray] V fun e w' => e = .returned (.int .i64 (g x : Nat)) ∧ Kept V w')
    (FN : ∀ (x : List Int) (V : World), (callFunc F #[.agg (ints x).toArray]).run Try.prog V = .ok (.enter F #[.agg (ints x).toArray]) V) :
    Calls Try.prog 53 #[row r, .int .i64 n, .func (Fn.func F) #[] #[]] w fun e w' => e = .returned (.tuple #[.agg (ints (mnA r n g)).toArray, .bool (BhOk r n)]) ∧ Kept w w' := by
  have H := (Has.box w 42 h24 (by omega)).alloc (.cells #[.int .i64 0, .int .i64 0] 33)
  have Z := (Has.zero2v (w.alloc (.cells (ints r).toArray 42)) 33).at (size1 _ _)
  have HB := Lib.hid (((kept_refl w).alloc (.cells (ints r).toArray 42)).alloc (.cells #[.int .i64 0, .int .i64 0] 33))
  have KFH := Lib.hid KF
  have HGG := Lib.hid hg
  rw [row_ints]
  clear KF hg
  go_enter Try.func53, Try.ntmps53
  go_wp2_with (refine load_has rfl 42 _ rfl _ rfl ?_ 24 ?_ _ Try.underlying42 rfl ?_ ?_; rotate_left; (· (repeat (first | (with_reducible assumption) | ((with_reducible refine Has.box _ _ ?_ ?_) <;> (first | assumption | decide)) | (with_reducible refine Has.alloc ?_ _) | ((with_reducible refine Has.putOther ?_ _ _ ?_); rotate_left; omega; skip) | ((with_reducible refine Has.below ?_ ?_); rotate_left; assumption)))); (· kernel_rfl))
  refine (behind_any r n _ h24).mono ?_
  rintro e w1 ⟨hp, b1⟩
  replace Z := Z.below b1
  replace HB := Lib.hid (HB.out.call b1)
  clear H b1
  rcases hp with ⟨hok, all, mb, K, W, rfl, q1, BH⟩ | ⟨hno, rfl⟩
  rotate_left
  · have E := Lib.hid (show BhOk r n = false ∧ mnA r n g = z2 from ⟨hno, by unfold mnA; rw [hno]; rfl⟩)
    have BP := Bk.box w1 z92 92
    have zz : ∀ v ∈ z92, v.oneCell' = true := by
      intro v hv
      unfold z92 at hv
      simp only [List.mem_cons, List.not_mem_nil, or_false] at hv
      rcases hv with rfl | rfl <;> rfl
    have Z2 := Z.alloc (.cells z92.toArray 92)
    have S1 := Lib.hid (Z2.putAll z2 rfl)
    have S2 := Lib.hid ((HB.out.alloc (.cells z92.toArray 92)).puts (b := w.heap.size + 1) (by omega) 0 (ints z2))
    clear hno
    go_wp2_with (first | (refine store_newbk rfl 92 _ _ rfl w1 z92.toArray 92 rfl _ rfl z92 rfl rfl rfl zz ?_ ?_; (· kernel_rfl)) | (refine build_law rfl 33 rfl _ build2z ?_) | (refine store_at rfl 33 _ _ rfl _ _ rfl rfl ?_ 2 ?_ ?_ ?_ ?_; rotate_left; (· (repeat (first | (with_reducible assumption) | ((with_reducible refine Has.box _ _ ?_ ?_) <;> (first | assumption | decide)) | (with_reducible refine Has.alloc ?_ _) | ((with_reducible refine Has.putOther ?_ _ _ ?_); rotate_left; omega; skip) | ((with_reducible refine Has.below ?_ ?_); rotate_left; assumption)))); (· (first | assumption | rfl)); (· kernel_rfl)))
    exact bodyPost_ret (res_has1 rfl _ _ (w.heap.size + 1) z2 2 _ (.bool false) rfl rfl S1.out Try.underlying33 rfl (by kernel_rfl)) rfl ⟨by rw [E.out.1, E.out.2], S2.out⟩
  have E := Lib.hid (show BhOk r n = true ∧ mnA r n g = frac (tot K W g) all from ⟨hok, (mn_cut hok BH g).symm⟩)
  have TB := Lib.hid BH.tab
  have TG := Lib.hid (show ∀ x ∈ K, GR x from fun x hx => BH.tab.good x hx)
  have TL := behind_le BH g (fun x hx => HGG.out x (BH.tab.good x hx))
  have ap := BH.pos
  have al := BH.le
  have WL := Lib.hid (show ∀ x, W x ≤ all from fun x => by have h1 := tab_le BH.tab x; rw [BH.one] at h1; exact h1)
  have KF := Lib.hid (fun V => fraction_any (tot K W g) all V ap (by omega) (by omega))
  have fl := frac_len (tot K W g) all
  have BP := Bk.box w1 (plC all mb) 92
  have Z2 := Z.alloc (.cells (plC all mb).toArray 92)
  have PM := q1.alloc (.cells (plC all mb).toArray 92)
  have HB2 := Lib.hid (HB.out.alloc (.cells (plC all mb).toArray 92))
  have c1 := BP.cell 1 (v := .map (some mb)) rfl
  have hzz := Z.lt
  have hmb := q1.lt
  clear hok Z HB q1 BH
  go_upto_region 4 with (refine store_newbk rfl 92 _ _ rfl w1 z92.toArray 92 rfl _ rfl (plC all mb) rfl rfl rfl (plC_one _ _) ?_ ?_; (· kernel_rfl))
  go_wp2_with (at_range; refine rg_start rfl _ rfl mb K W PM rfl ?_; intro w6 hR hgr hsz)
  go_frame
  replace BP := BP.grown hgr (by simp)
  replace Z2 := Z2.grownNo hgr (by simp)
  replace HB2 : Hid (Kept w w6) := Lib.hid (HB2.out.grown hgr HB2.out.size (fun j hj => by cases hj))
  obtain ⟨cnt0, hR⟩ := hR
  replace hR := Lib.hid hR
  obtain ⟨pb, hpb⟩ : ∃ pb, w1.heap.size = pb := ⟨_, rfl⟩
  have hr5 : (w1.alloc (.cells (plC all mb).toArray 92)).heap.size = pb + 1 := by rw [size1, hpb]
  rw [hr5] at hR ⊢
  rw [hpb] at BP hzz hmb ⊢
  clear hgr hsz PM c1 hpb hr5
  go_loopg [10] cnt0 (fun gk s10 wr => ∃ (cnt : Nat) (seen : List (List Int)) (y : Nat), gk = cnt ∧ s10 = .int .i64 (y : Nat) ∧ Hid (y = fsum (fun l => W l * g l) seen) ∧ Hid (Rg wr mb (pb + 1) K W seen cnt) ∧ Bk wr pb (plC all mb) 92 ∧ Has wr (w.heap.size + 1) z2 2 ∧ Hid (Kept w wr))
  case atStart => exact ⟨cnt0, [], 0, rfl, rfl, Lib.hid rfl, hR, BP, Z2, HB2⟩
  case round =>
    clear hR BP Z2 HB2
    obtain ⟨cnt, seen, y, rfl, rfl, HY, GR', BP, Z, GB⟩ := hrel
    go_wp2_with (at_next; refine rg_step rfl _ rfl mb (pb + 1) gk K W TB.out seen GR'.out rfl ?_ ?_)
    · intro hall
      have EY : y = tot K W g := by rw [HY.out]; exact fsum_all _ GR'.out.nodup TB.out.nodup hall
      subst EY
      have c0 := BP.cell 0 (v := .int .i64 (all : Nat)) rfl
      clear hall GR' HY
      go_wp2_with fail
      refine (KF.out _).mono ?_
      rintro e w9 ⟨rfl, b9⟩
      replace Z := Z.below b9
      have S1 := Lib.hid (Z.putAll (frac (tot K W g) all) fl)
      have S2 := Lib.hid ((GB.out.call b9).puts (b := w.heap.size + 1) (by omega) 0 (ints (frac (tot K W g) all)))
      clear b9 BP GB c0
      go_wp2_with (refine store_at rfl 33 _ _ rfl _ _ rfl rfl ?_ 2 ?_ ?_ ?_ ?_; rotate_left; (· (repeat (first | (with_reducible assumption) | ((with_reducible refine Has.box _ _ ?_ ?_) <;> (first | assumption | decide)) | (with_reducible refine Has.alloc ?_ _) | ((with_reducible refine Has.putOther ?_ _ _ ?_); rotate_left; omega; skip) | ((with_reducible refine Has.below ?_ ?_); rotate_left; assumption)))); (· (first | assumption | rfl)); (· kernel_rfl))
      exact bodyPost_ret (res_has1 rfl _ _ (w.heap.size + 1) (frac (tot K W g) all) 2 _ (.bool true) rfl rfl S1.out Try.underlying33 rfl (by kernel_rfl)) rfl ⟨by rw [E.out.1, E.out.2], S2.out⟩
    · intro f w7 cnt' hf hfs hR7 hlt hgr hsz hen
      have gf := TG.out f hf
      have f24 := gf.1
      have HY2 := Lib.hid (show y + W f * g f = fsum (fun l => W l * g l) (f :: seen) by rw [fsum_cons, HY.out]; omega)
      have hsub : fsum (fun l => W l * g l) (f :: seen) ≤ tot K W g := fsum_sub _ (List.nodup_cons.2 ⟨hfs, GR'.out.nodup⟩) (fun x hx => by
        rcases List.mem_cons.1 hx with rfl | hx
        · exact hf
        · exact GR'.out.sub x hx)
      rw [← HY2.out] at hsub
      have wf := WL.out f
      have gg := HGG.out f gf
      have KN := Lib.hid (fun V (h : Kept w V) => KFH.out V h f gf)
      have hLT := Lib.hid hlt
      have hpl := BP.lt
      have hzl := Z.lt
      have hrl := GR'.out.lt.1
      replace BP := BP.grown hgr (fun e => by have e := Option.some.inj e; omega)
      replace Z := Z.grownNo hgr (fun e => by have e := Option.some.inj e; omega)
      replace GB : Hid (Kept w w7) := Lib.hid (GB.out.grown hgr GB.out.size (fun j hj => by have hj := Option.some.inj hj; omega))
      have GR7 := Lib.hid (hR7.alloc (.cells (ints f).toArray 38))
      replace BP := BP.alloc (.cells (ints f).toArray 38)
      replace Z := Z.alloc (.cells (ints f).toArray 38)
      replace GB := Lib.hid (GB.out.alloc (.cells (ints f).toArray 38))
      have GY := Has.box w7 38 f24 (by omega)
      have m1 : W f * g f ≤ (30 * 2329089562800) * 24 := Nat.mul_le_mul (by omega) gg
      have wm : IntKind.i64.wrap (((W f : Nat) : Int) * ((g f : Nat) : Int)) = ((W f * g f : Nat) : Int) := by
        rw [← Int.natCast_mul]; exact IntWalk.i64_in _ (by omega)
      have ws : IntKind.i64.wrap ((y : Int) + ((W f * g f : Nat) : Int)) = ((y + W f * g f : Nat) : Int) := by rw [IntWalk.i64_in _ (by omega)]; omega
      have FNf := FN f
      clear hR7 hgr hsz hf hfs GR' HY hlt hsub m1
      go_upto_region 8 with (refine store_new rfl 38 _ _ rfl _ _ _ rfl _ rfl _ rfl rfl ?_ ?_ ?_; (· (first | assumption | rfl)); (· kernel_rfl))
      generalize w7.alloc (.cells (ints f).toArray 38) = W8 at *
      go_wp2_with (first | (refine load_has rfl 38 _ rfl _ rfl ?_ 24 ?_ _ Try.underlying38 rfl ?_ ?_; rotate_left; (· (repeat (first | (with_reducible assumption) | ((with_reducible refine Has.box _ _ ?_ ?_) <;> (first | assumption | decide)) | (with_reducible refine Has.alloc ?_ _) | ((with_reducible refine Has.putOther ?_ _ _ ?_); rotate_left; omega; skip) | ((with_reducible refine Has.below ?_ ?_); rotate_left; assumption)))); (· kernel_rfl)) | (refine build_lawX rfl 42 _ rfl (.agg (ints f).toArray) (.agg (ints f).toArray) rfl (buildRackX f f24) ?_))
      refine (KN.out _ GB.out).mono ?_
      rintro e w9 ⟨rfl, b9⟩
      replace GR7 := Lib.hid (GR7.out.below b9)
      replace BP := BP.below b9
      replace Z := Z.below b9
      replace GB := Lib.hid (GB.out.call b9)
      clear b9 GY KN
      generalize W f * g f = m at *
      obtain ⟨u, hu⟩ : ∃ u, u = y + m := ⟨_, rfl⟩
      rw [← hu] at ws HY2
      clear hu
      go_wp2_with fail
      go_roundg cnt'
      case rel => exact ⟨cnt', f :: seen, u, rfl, rfl, HY2, GR7, BP, Z, GB⟩
      case measure => exact hLT.out
end Go.Proofs.Ytemiljokdedidac.base
end
