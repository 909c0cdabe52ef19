/-
  Two racks are drawn, and a text of a rack, walked.
-/
import Derived.Test.YtlnbhopigjkkkaaDrawQ
import Derived.Test.YtlnbhopigjkkkaaPrsE
namespace Go.Proofs.Ytlnbhopigjkkkaa.base
open Go.ChangeShapes Go.WideShapes Go.ChangeAt Go.RowKit
open Go.Proofs.Ytlnbhopigjkkkaa.cur
set_option linter.unusedVariables false
set_option linter.unusedSimpArgs false

theorem pours_two (ns : List Int) : ∀ m, m ≤ 36 → (poursF ns m).length = poursN ns m * 2 ∧ ∀ j, j < poursN ns m → ∃ p q : Nat, p < 6 ∧ q < 6 ∧ p ≠ q ∧ 0 < canN (tub ns p) (tub ns q) ∧ (poursF ns m).getD (j * 2) 0 = (p : Int) ∧ (poursF ns m).getD (j * 2 + 1) 0 = (q : Int)
  | 0, _ => by rw [(pours0 ns).1, (pours0 ns).2]; exact ⟨rfl, fun j hj => by omega⟩
  | m + 1, hm => by
    obtain ⟨h1, h2⟩ := pours_two ns m (by omega)
    by_cases hc : m / 6 ≠ m % 6 ∧ 0 < canN (tub ns (m / 6)) (tub ns (m % 6))
    · have e : poursF ns (m + 1) = poursF ns m ++ [((m / 6 : Nat) : Int), ((m % 6 : Nat) : Int)] := by rw [poursF, if_pos hc]
      have en : poursN ns (m + 1) = poursN ns m + 1 := by unfold poursN; rw [e, List.length_append]; simp
      rw [e, en]
      refine ⟨by rw [List.length_append, h1]; simp; omega, fun j hj => ?_⟩
      by_cases hjn : j < poursN ns m
      · obtain ⟨p, q, a1, a2, a0, a3, a4, a5⟩ := h2 j hjn
        refine ⟨p, q, a1, a2, a0, a3, ?_, ?_⟩
        · rw [← a4, List.getD_eq_getElem?_getD, List.getD_eq_getElem?_getD, List.getElem?_append_left (by omega)]
        · rw [← a5, List.getD_eq_getElem?_getD, List.getD_eq_getElem?_getD, List.getElem?_append_left (by omega)]
      · obtain rfl : j = poursN ns m := by omega
        refine ⟨m / 6, m % 6, by omega, by omega, hc.1, hc.2, ?_, ?_⟩
        · rw [List.getD_eq_getElem?_getD, List.getElem?_append_right (by omega), h1, Nat.sub_self]; rfl
        · rw [List.getD_eq_getElem?_getD, List.getElem?_append_right (by omega), h1, Nat.add_sub_cancel_left]; rfl
    · have e : poursF ns (m + 1) = poursF ns m := by rw [poursF, if_neg hc]
      have en : poursN ns (m + 1) = poursN ns m := by unfold poursN; rw [e]
      rw [e, en]; exact ⟨h1, h2⟩
theorem pourT_len {ns : List Int} {p q : Nat} (h24 : ns.length = 24) (hv : vR ns = true) (hp : p < 6) (hq : q < 6) (hpos : 0 < canN (tub ns p) (tub ns q)) : (pourT ns p q).length = 24 := by
  obtain ⟨k1, k2, k3⟩ := canN_le (tub_len ns p h24 hp) (tub_len ns q h24 hq) (vR_tub hv p hp) (vR_tub hv q hq)
  exact two_len h24 hp hq (fromK_facts (tub_len ns p h24 hp) (vR_tub hv p hp) _ k1).2.2 (toK_facts (tub_len ns q h24 hq) (vR_tub hv q hq) _ (k3 hpos) _ k2).2.2
theorem rangeOfTwo {w : World} {g o : Nat} {x y : Int} (h0 : w.cell? ⟨g, o, none⟩ = some (.int .i64 x)) (h1 : w.cell? ⟨g, o + 1, none⟩ = some (.int .i64 y)) : w.rangeAt g o (ints [x, y]) := by
  intro j v hv
  match j, hv with
  | 0, hv => injection hv with hv; subst hv; exact h0
  | 1, hv => injection hv with hv; subst hv; exact h1
theorem res_has_has {P : Program} {fn : Func} {p q : Tmp} {T : TypeId} (h : fn.results = #[.cell p T, .cell q T]) (tmps : Array Value) (w : World) (b c : Nat) (ns ms : List Int) (n : Nat) (d : TypeDesc)
    (hp : tmps.getD p undef = .pointer (some ⟨b, 0, none⟩)) (hq : tmps.getD q undef = .pointer (some ⟨c, 0, none⟩)) (H : Has w b ns n) (G : Has w c ms n) (hu : P.underlying T = some d) (hd : d.isRow = true) (hi : (P.info? T).map (·.size) = some n) :
    (results fn tmps).run P w = .ok (.tuple #[.agg (ints ns).toArray, .agg (ints ms).toArray]) w := by
  have hp' : tmps[p]?.getD undef = .pointer (some ⟨b, 0, none⟩) := by simpa using hp
  have hq' : tmps[q]?.getD undef = .pointer (some ⟨c, 0, none⟩) := by simpa using hq
  have hl := run_loadVar_mid (P := P) w b 0 T (ints ns) d H.holds.range hu hd (by rw [ints_len, H.len]; exact hi)
  have hl2 := run_loadVar_mid (P := P) w c 0 T (ints ms) d G.holds.range hu hd (by rw [ints_len, G.len]; exact hi)
  simp [results, h, hp', hq', asAddr, hl, hl2]

/-- The two racks' blocks, the results' and the cursor. -/
structure Dl (w : World) (c b d K : Nat) (ns ms : List Int) (wr : World) : Prop where
  fst : Has wr b ns 24
  snd : Has wr d ms 24
  resA : Has wr w.heap.size z24 24
  resB : Has wr (w.heap.size + 1) z24 24
  cur : Cur wr c K
  keep : Kept w wr
theorem Dl.call {w wr w2 : World} {c b d K L : Nat} {ns ms : List Int} (h : Dl w c b d K ns ms wr) (hc : Cur w2 c L) (m : Moved c wr w2) (h1 : c = w.heap.size + 1 + 1) (h2 : c < b) (h3 : c < d) : Dl w c b d L ns ms w2 :=
  ⟨h.fst.moved m (by omega), h.snd.moved m (by omega), h.resA.moved m (by omega), h.resB.moved m (by omega), hc, Moved.below h.keep m (by omega) h.keep.size⟩
theorem Dl.below {w wr w2 : World} {c b d K : Nat} {ns ms : List Int} (h : Dl w c b d K ns ms wr) (m : Below wr.heap.size wr w2) : Dl w c b d K ns ms w2 :=
  ⟨h.fst.below m, h.snd.below m, h.resA.below m, h.resB.below m, h.cur.below m, Kept.call h.keep m⟩
theorem Dl.alloc {w wr : World} {c b d K : Nat} {ns ms : List Int} (h : Dl w c b d K ns ms wr) (o : Obj) : Dl w c b d K ns ms (wr.alloc o) :=
  ⟨h.fst.alloc o, h.snd.alloc o, h.resA.alloc o, h.resB.alloc o, Cur.alloc h.cur o, h.keep.alloc o⟩
theorem Dl.put {w wr : World} {c b d K : Nat} {ns ms : List Int} (h : Dl w c b d K ns ms wr) (rs : List Int) (hr : rs.length = 24) (h1 : c = w.heap.size + 1 + 1) (h2 : c < b) (h3 : b < d) : Dl w c b d K ns rs (wr.setCells d 0 (ints rs)) :=
  ⟨h.fst.putOther _ _ (by omega), h.snd.putAll rs hr, h.resA.putOther _ _ (by omega), h.resB.putOther _ _ (by omega), Cur.puts h.cur _ _ (by omega), h.keep.puts (by omega) _ _⟩

set_option maxHeartbeats 3200000 in
set_option maxRecDepth 100000 in
theorem drawLess (a : Option Addr) (len cap : Nat) (w : World) (h : Code w a len) :
    Calls Try.prog 22 #[.slice a len cap] w fun e w' => ∃ ns ms : List Int, e = .returned (.tuple #[.agg (ints ns).toArray, .agg (ints ms).toArray]) ∧ ns.length = 24 ∧ ms.length = 24 ∧ Below w.heap.size w w' := by
  have B0 : Below w.heap.size w ((w.alloc (.cells #[.int .i64 0, .int .i64 0, .int .i64 0, .int .i64 0, .int .i64 0, .int .i64 0, .int .i64 0, .int .i64 0, .int .i64 0, .int .i64 0, .int .i64 0, .int .i64 0, .int .i64 0, .int .i64 0, .int .i64 0, .int .i64 0, .int .i64 0, .int .i64 0, .int .i64 0, .int .i64 0, .int .i64 0, .int .i64 0, .int .i64 0, .int .i64 0] 27)).alloc (.cells #[.int .i64 0, .int .i64 0, .int .i64 0, .int .i64 0, .int .i64 0, .int .i64 0, .int .i64 0, .int .i64 0, .int .i64 0, .int .i64 0, .int .i64 0, .int .i64 0, .int .i64 0, .int .i64 0, .int .i64 0, .int .i64 0, .int .i64 0, .int .i64 0, .int .i64 0, .int .i64 0, .int .i64 0, .int .i64 0, .int .i64 0, .int .i64 0] 27)) := ((Below.refl _ _).alloc (Nat.le_refl _) _).alloc (by simp) _
  have RA := ((Has.zero24 w 27).alloc (.cells #[.int .i64 0, .int .i64 0, .int .i64 0, .int .i64 0, .int .i64 0, .int .i64 0, .int .i64 0, .int .i64 0, .int .i64 0, .int .i64 0, .int .i64 0, .int .i64 0, .int .i64 0, .int .i64 0, .int .i64 0, .int .i64 0, .int .i64 0, .int .i64 0, .int .i64 0, .int .i64 0, .int .i64 0, .int .i64 0, .int .i64 0, .int .i64 0] 27)).alloc (.cells #[.slice a len cap, .int .i64 0, .int .u64 0] 69)
  have RB := ((Has.zero24 (w.alloc (.cells #[.int .i64 0, .int .i64 0, .int .i64 0, .int .i64 0, .int .i64 0, .int .i64 0, .int .i64 0, .int .i64 0, .int .i64 0, .int .i64 0, .int .i64 0, .int .i64 0, .int .i64 0, .int .i64 0, .int .i64 0, .int .i64 0, .int .i64 0, .int .i64 0, .int .i64 0, .int .i64 0, .int .i64 0, .int .i64 0, .int .i64 0, .int .i64 0] 27)) 27).at (size1 _ _)).alloc (.cells #[.slice a len cap, .int .i64 0, .int .u64 0] 69)
  have C0 := cur_new (cap := cap) (h.below B0)
  have s2 : ((w.alloc (.cells #[.int .i64 0, .int .i64 0, .int .i64 0, .int .i64 0, .int .i64 0, .int .i64 0, .int .i64 0, .int .i64 0, .int .i64 0, .int .i64 0, .int .i64 0, .int .i64 0, .int .i64 0, .int .i64 0, .int .i64 0, .int .i64 0, .int .i64 0, .int .i64 0, .int .i64 0, .int .i64 0, .int .i64 0, .int .i64 0, .int .i64 0, .int .i64 0] 27)).alloc (.cells #[.int .i64 0, .int .i64 0, .int .i64 0, .int .i64 0, .int .i64 0, .int .i64 0, .int .i64 0, .int .i64 0, .int .i64 0, .int .i64 0, .int .i64 0, .int .i64 0, .int .i64 0, .int .i64 0, .int .i64 0, .int .i64 0, .int .i64 0, .int .i64 0, .int .i64 0, .int .i64 0, .int .i64 0, .int .i64 0, .int .i64 0, .int .i64 0] 27)).heap.size = w.heap.size + 1 + 1 := by simp
  rw [s2] at C0
  have HC := Lib.hid C0
  have M0 := Lib.hid ((((kept_refl w).alloc (.cells #[.int .i64 0, .int .i64 0, .int .i64 0, .int .i64 0, .int .i64 0, .int .i64 0, .int .i64 0, .int .i64 0, .int .i64 0, .int .i64 0, .int .i64 0, .int .i64 0, .int .i64 0, .int .i64 0, .int .i64 0, .int .i64 0, .int .i64 0, .int .i64 0, .int .i64 0, .int .i64 0, .int .i64 0, .int .i64 0, .int .i64 0, .int .i64 0] 27)).alloc (.cells #[.int .i64 0, .int .i64 0, .int .i64 0, .int .i64 0, .int .i64 0, .int .i64 0, .int .i64 0, .int .i64 0, .int .i64 0, .int .i64 0, .int .i64 0, .int .i64 0, .int .i64 0, .int .i64 0, .int .i64 0, .int .i64 0, .int .i64 0, .int .i64 0, .int .i64 0, .int .i64 0, .int .i64 0, .int .i64 0, .int .i64 0, .int .i64 0] 27)).alloc (.cells #[.slice a len cap, .int .i64 0, .int .u64 0] 69))
  clear h B0 C0 s2
  go_enter Try.func22, Try.ntmps22
  go_wp2_with fail
  refine (rack_any (w.heap.size + 1 + 1) _ _ HC.out (by omega)).mono ?_
  rintro e w1 ⟨ns, rfl, hl, cc, mm⟩
  have RA1 := RA.moved mm (by omega)
  have RB1 := RB.moved mm (by omega)
  have M1 : Hid (Kept w w1) := Lib.hid (Moved.below M0.out mm (by omega) M0.out.size)
  have hc1 := cc.lt
  have D2 : Hid (Dl w (w.heap.size + 1 + 1) w1.heap.size (w1.heap.size + 1) (0 + 10000) ns ns ((w1.alloc (.cells (ints ns).toArray 27)).alloc (.cells (ints ns).toArray 27))) := Lib.hid
    ⟨(Has.box w1 27 hl (by omega)).alloc _, (Has.box (w1.alloc (.cells (ints ns).toArray 27)) 27 hl (by omega)).at (size1 _ _), (RA1.alloc _).alloc _, (RB1.alloc _).alloc _, Cur.alloc (Cur.alloc cc _) _, (M1.out.alloc _).alloc _⟩
  have A5 := Has.box w1 27 hl (by omega)
  obtain ⟨b, hb⟩ : ∃ b, b = w1.heap.size := ⟨_, rfl⟩
  obtain ⟨d, hd⟩ : ∃ d, d = w1.heap.size + 1 := ⟨_, rfl⟩
  have hcb : w.heap.size + 1 + 1 < b := by omega
  have hbd : b < d := by omega
  have hcd : w.heap.size + 1 + 1 < d := by omega
  obtain ⟨W2, hW2⟩ : ∃ W2, W2 = ((w1.alloc (.cells (ints ns).toArray 27)).alloc (.cells (ints ns).toArray 27)) := ⟨_, rfl⟩
  have DD := D2
  rw [← hW2, ← hd, ← hb] at DD
  clear RA RB HC M0 cc mm RA1 RB1 M1 D2 hc1
  go_wp2_with (first | (refine guard_op (isStore 27) ?_ ?_; (· rfl); first | (refine store_new rfl 27 _ _ rfl _ _ _ rfl _ (size1 _ _).symm ns ?_ ?_ hl ?_ ?_; (· kernel_rfl); (· kernel_rfl); (· kernel_rfl)) | (refine store_new rfl 27 _ _ rfl _ _ _ rfl _ rfl ns ?_ ?_ hl ?_ ?_; (· kernel_rfl); (· kernel_rfl); (· kernel_rfl))) | (refine guard_op (isLoad 27) ?_ ?_; (· rfl); (refine load_has rfl 27 _ rfl _ rfl ?_ 24 ?_ _ Try.underlying27 rfl ?_ ?_; rotate_left; (· (repeat (first | (with_reducible assumption) | ((with_reducible refine Has.box _ _ ?_ ?_) <;> (first | assumption | decide)) | (with_reducible refine Has.alloc ?_ _) | ((with_reducible refine Has.putOther ?_ _ _ ?_); rotate_left; omega; skip) | ((with_reducible refine Has.below ?_ ?_); rotate_left; assumption)))); (· kernel_rfl))))
  rw [← hW2, ← hd, ← hb]
  clear hW2 hb hd A5
  have DC := Lib.hid DD.out.cur
  go_wp2_with fail
  refine (one_any (w.heap.size + 1 + 1) _ 3 _ DC.out (by omega) (by omega) (by omega)).mono ?_
  rintro e w3 ⟨t, rfl, cc, mm⟩
  have D3 := Lib.hid (DD.out.call cc mm rfl hcb hcd)
  clear DD DC cc mm
  cases t
  case' true =>
    have C3 := Lib.hid D3.out.cur
    go_wp2_with fail
    refine (rack_any (w.heap.size + 1 + 1) _ _ C3.out (by omega)).mono ?_
    rintro e w4 ⟨rs, rfl, hr, cc, mm⟩
    have D4 := Lib.hid (D3.out.call cc mm rfl hcb hcd)
    have DT := Lib.hid D4.out.snd.there
    obtain ⟨ms, hms, hE, DZ⟩ : ∃ (ms : List Int) (hms : ms.length = 24), ms = rs ∧ Hid (Dl w (w.heap.size + 1 + 1) b d (0 + 10000 + 2 + 10000) ns ms (w4.setCells d 0 (ints rs))) := ⟨rs, hr, rfl, Lib.hid (D4.out.put rs hr rfl hcb hbd)⟩
    clear D3 C3 D4 cc mm hE
    go_wp2_with (refine guard_op (isStore 27) ?_ ?_; (· rfl); refine store_has rfl 27 _ _ rfl d 0 rs ?_ ?_ 24 hr DT.out ?_ ?_; (· kernel_rfl); (· kernel_rfl); (· kernel_rfl))
  case' false =>
    have H3 := D3.out.fst
    go_wp2_with (refine guard_op (isLoad 27) ?_ ?_; (· rfl); (refine load_has rfl 27 _ rfl _ rfl ?_ 24 ?_ _ Try.underlying27 rfl ?_ ?_; rotate_left; (· (repeat (first | (with_reducible assumption) | ((with_reducible refine Has.box _ _ ?_ ?_) <;> (first | assumption | decide)) | (with_reducible refine Has.alloc ?_ _) | ((with_reducible refine Has.putOther ?_ _ _ ?_); rotate_left; omega; skip) | ((with_reducible refine Has.below ?_ ?_); rotate_left; assumption)))); (· kernel_rfl)))
    refine (l2Rack_any ns _ hl).mono ?_
    rintro e w4 ⟨rfl, bb⟩
    have D4 := Lib.hid (D3.out.below bb)
    clear D3 H3 bb
    by_cases hv : vR ns = true
    case' neg =>
      have hf : vR ns = false := by simpa using hv
      rw [hf]
      obtain ⟨ms, hms, DZ⟩ : ∃ (ms : List Int) (hms : ms.length = 24), Hid (Dl w (w.heap.size + 1 + 1) b d (0 + 10000 + 2 + 10000) ns ms w4) := ⟨ns, hl, Lib.hid ⟨D4.out.fst, D4.out.snd, D4.out.resA, D4.out.resB, D4.out.cur.mono (by omega), D4.out.keep⟩⟩
      clear D4 hv hf
      go_wp2_with fail
    case' pos =>
      rw [hv]
      have HV := Lib.hid hv
      clear hv
      have H4 := D4.out.fst
      go_wp2_with (refine guard_op (isLoad 27) ?_ ?_; (· rfl); (refine load_has rfl 27 _ rfl _ rfl ?_ 24 ?_ _ Try.underlying27 rfl ?_ ?_; rotate_left; (· (repeat (first | (with_reducible assumption) | ((with_reducible refine Has.box _ _ ?_ ?_) <;> (first | assumption | decide)) | (with_reducible refine Has.alloc ?_ _) | ((with_reducible refine Has.putOther ?_ _ _ ?_); rotate_left; omega; skip) | ((with_reducible refine Has.below ?_ ?_); rotate_left; assumption)))); (· kernel_rfl)))
      refine (l2Pours_any ns _ hl HV.out).mono ?_
      rintro e w5 ⟨v, rfl, p5, bb⟩
      have D5 := Lib.hid (D4.out.below bb)
      have hs4 := D4.out.snd.lt
      have PT := Lib.hid (pours_two ns 36 (by omega)).2
      have hN := poursN_le ns 36
      clear D4 H4 bb
      generalize poursN ns 36 = n at *
      generalize poursF ns 36 = fs at *
      rcases n with _ | n
      case' zero =>
        obtain ⟨av, cv, rfl⟩ := prs_zero p5
        obtain ⟨ms, hms, DZ⟩ : ∃ (ms : List Int) (hms : ms.length = 24), Hid (Dl w (w.heap.size + 1 + 1) b d (0 + 10000 + 2 + 10000) ns ms w5) := ⟨ns, hl, Lib.hid ⟨D5.out.fst, D5.out.snd, D5.out.resA, D5.out.resB, D5.out.cur.mono (by omega), D5.out.keep⟩⟩
        clear D5 p5 PT
        go_wp2_with fail
      case' succ =>
        obtain ⟨g, cap2, rfl, hg, _⟩ := p5.form (by omega)
        have P5 := Lib.hid p5
        have C5 := Lib.hid D5.out.cur
        have n0 : (0 : Int) < (n : Int) + 1 := by omega
        have n0' : (0 : Int) < ((n + 1 : Nat) : Int) := by omega
        clear p5
        go_wp2_with fail
        refine (one_any (w.heap.size + 1 + 1) _ 4 _ C5.out (by omega) (by omega) (by omega)).mono ?_
        rintro e w6 ⟨t, rfl, cc, mm⟩
        have D6 := Lib.hid (D5.out.call cc mm rfl hcb hcd)
        have P6 := Lib.hid (show Prs w6 _ _ _ _ from moved_row P5.out mm (by omega))
        clear D5 P5 C5 cc mm
        cases t
        case' true =>
          obtain ⟨ms, hms, DZ⟩ : ∃ (ms : List Int) (hms : ms.length = 24), Hid (Dl w (w.heap.size + 1 + 1) b d (0 + 10000 + 2 + 10000) ns ms w6) := ⟨ns, hl, Lib.hid ⟨D6.out.fst, D6.out.snd, D6.out.resA, D6.out.resB, D6.out.cur.mono (by omega), D6.out.keep⟩⟩
          clear D6 P6 PT
          go_wp2_with fail
        case' false =>
          have C6 := Lib.hid D6.out.cur
          go_wp2_with fail
          refine (pick_any (w.heap.size + 1 + 1) _ ((n : Int) + 1) _ C6.out (by omega) (by omega) (by omega)).mono ?_
          rintro e w7 ⟨z, rfl, z0, z1, cc, mm⟩
          obtain ⟨j, rfl⟩ : ∃ j : Nat, z = (j : Int) := ⟨z.toNat, by omega⟩
          have hj : j < n + 1 := by omega
          have D7 := Lib.hid (D6.out.call cc mm rfl hcb hcd)
          have P7 : Prs w7 _ _ _ _ := moved_row P6.out mm (by omega)
          obtain ⟨p, q, hp, hq, hne, hpos, e1, e2⟩ := PT.out j hj
          have RG : Hid (w7.rangeAt g (j * 2) (ints [(p : Int), (q : Int)])) := Lib.hid (rangeOfTwo (e1 ▸ P7.cell (j * 2) (by omega)) (e2 ▸ P7.cell (j * 2 + 1) (by omega)))
          clear D6 P6 P7 C6 cc mm e1 e2 PT
          have D8 := Lib.hid (D7.out.alloc (.cells (ints [(p : Int), (q : Int)]).toArray 53))
          have B8 := Has.box (ns := [(p : Int), (q : Int)]) (n := 2) w7 53 rfl (by omega)
          have hP2 : ([(p : Int), (q : Int)] : List Int).length = 2 := rfl
          have cc0 := B8.cell 0 (by omega)
          have cc1 := B8.cell 1 (by omega)
          rw [List.getD_cons_zero] at cc0
          rw [List.getD_cons_succ, List.getD_cons_zero] at cc1
          have H8 := D8.out.fst
          clear D7 B8
          go_wp2_with (first | (refine wpList_load_mid rfl 53 _ rfl g (j * 2) rfl (ints [(p : Int), (q : Int)]) _ RG.out Try.underlying53 rfl (by kernel_rfl) ?_) | (refine store_new rfl 53 _ _ rfl _ _ _ rfl _ rfl _ rfl rfl ?_ ?_ ?_; (· (first | assumption | rfl)); (· kernel_rfl)) | (refine guard_op (isLoad 27) ?_ ?_; (· rfl); (refine load_has rfl 27 _ rfl _ rfl ?_ 24 ?_ _ Try.underlying27 rfl ?_ ?_; rotate_left; (· (repeat (first | (with_reducible assumption) | ((with_reducible refine Has.box _ _ ?_ ?_) <;> (first | assumption | decide)) | (with_reducible refine Has.alloc ?_ _) | ((with_reducible refine Has.putOther ?_ _ _ ?_); rotate_left; omega; skip) | ((with_reducible refine Has.below ?_ ?_); rotate_left; assumption)))); (· kernel_rfl))))
          refine (l2Pour_any ns p q _ hl HV.out hp hq hne hpos).mono ?_
          rintro e w9 ⟨rfl, bb⟩
          have hlr := pourT_len hl HV.out hp hq hpos
          generalize pourT ns p q = rs at *
          have D9 := Lib.hid ((D8.out.below bb).alloc (.cells (ints rs).toArray 27))
          have A9 := Has.box w9 27 hlr (by omega)
          have DT := Lib.hid D9.out.snd.there
          obtain ⟨ms, hms, hE, DZ⟩ : ∃ (ms : List Int) (hms : ms.length = 24), ms = rs ∧ Hid (Dl w (w.heap.size + 1 + 1) b d (0 + 10000 + 2 + 10000) ns ms ((w9.alloc (.cells (ints rs).toArray 27)).setCells d 0 (ints rs))) := ⟨rs, hlr, rfl, Lib.hid (by have D10 := D9.out.put rs hlr rfl hcb hbd; exact ⟨D10.fst, D10.snd, D10.resA, D10.resB, D10.cur.mono (by omega), D10.keep⟩)⟩
          clear D8 D9 H8 cc0 cc1 RG bb hE
          go_wp2_with (first | (refine store_new rfl 27 _ _ rfl _ _ _ rfl _ rfl _ rfl rfl ?_ ?_ ?_; (· (first | assumption | rfl)); (· kernel_rfl)) | (refine guard_op (isLoad 27) ?_ ?_; (· rfl); (refine load_has rfl 27 _ rfl _ rfl ?_ 24 ?_ _ Try.underlying27 rfl ?_ ?_; rotate_left; (· (repeat (first | (with_reducible assumption) | ((with_reducible refine Has.box _ _ ?_ ?_) <;> (first | assumption | decide)) | (with_reducible refine Has.alloc ?_ _) | ((with_reducible refine Has.putOther ?_ _ _ ?_); rotate_left; omega; skip) | ((with_reducible refine Has.below ?_ ?_); rotate_left; assumption)))); (· kernel_rfl))) | (refine guard_op (isStore 27) ?_ ?_; (· rfl); refine store_has rfl 27 _ _ rfl d 0 rs ?_ ?_ 24 hlr DT.out ?_ ?_; (· kernel_rfl); (· kernel_rfl); (· kernel_rfl)))
  all_goals
    have l1 : (ints ns).length = 24 := by rw [ints_len]; exact hl
    have l2 : (ints ms).length = 24 := by rw [ints_len]; exact hms
    have hi1 : (Try.prog.info? 27).map (·.size) = some (ints ns).length := by rw [l1]; kernel_rfl
    have hi2 : (Try.prog.info? 27).map (·.size) = some (ints ms).length := by rw [l2]; kernel_rfl
    refine wp_region_held_drew (S := fun w' => Has w' b ns 24 ∧ Has w' d ms 24) (by kernel_rfl) ⟨DZ.out.fst.drew, DZ.out.snd.drew⟩ (fun hHeld => ?_)
    (refine wpAnyH_take (i := 0) (v := _) rfl (by kernel_rfl) (by kernel_rfl) (by kernel_rfl) (fun _ _ _ h => h) (yieldsIf_load_mid (by rfl) 27 _ rfl _ _ rfl (ints ns) _ (fun w' hSw => hSw.1.holds.range) Try.underlying27 rfl (hi1)) hHeld ?_; (try simp only [List.getElem_toArray, List.getElem_cons_zero, List.getElem_cons_succ, Act.put, List.setIfInBounds_toArray, List.set_cons_zero, List.set_cons_succ]))
    (refine wpAnyH_take (i := 1) (v := _) rfl (by kernel_rfl) (by kernel_rfl) (by kernel_rfl) (fun _ _ _ h => h) (yieldsIf_load_mid (by rfl) 27 _ rfl _ _ rfl (ints ms) _ (fun w' hSw => hSw.2.holds.range) Try.underlying27 rfl (hi2)) hHeld ?_; (try simp only [List.getElem_toArray, List.getElem_cons_zero, List.getElem_cons_succ, Act.put, List.setIfInBounds_toArray, List.set_cons_zero, List.set_cons_succ]))
    have RA := DZ.out.resA.drew
    have RB := DZ.out.resB.drew
    have S1 := Lib.hid ((RA.putAll ns hl).putOther (b' := w.heap.size + 1) 0 (ints ms) (by omega))
    have S2 := Lib.hid ((RB.putOther (b' := w.heap.size) 0 (ints ns) (by omega)).putAll ms hms)
    have S3 := Lib.hid (((DZ.out.keep.drewN 1).puts (b := w.heap.size) (Nat.le_refl _) 0 (ints ns)).puts (b := w.heap.size + 1) (by omega) 0 (ints ms))
    (refine wpAnyH_ready (rs := [2]) (by kernel_rfl) (by simp) ?_; refine AllReadyH.cons (o := _) rfl (fun K hK => ?_) AllReadyH.nil; (simp only [List.getElem_toArray, List.getElem_cons_zero, List.getElem_cons_succ, Region.wanted, if_true]); refine wp_store_mid _ _ _ rfl _ _ (ints ns).toArray rfl rfl (by simpa [l1] using RA.there) (by simpa [l1] using hi1) (all_oneCell_toArray (ints_one _)) ?_; (try simp only [List.getElem_toArray, List.getElem_cons_zero, List.getElem_cons_succ, Act.put, List.setIfInBounds_toArray, List.set_cons_zero, List.set_cons_succ, List.toList_toArray]); refine hK.out _ _ (⟨hHeld.1.putOther _ _ (by omega), hHeld.2.putOther _ _ (by omega)⟩) (fun hHeld => ?_); clear hK K)
    (refine wpAnyH_ready (rs := [3]) (by kernel_rfl) (by simp) ?_; refine AllReadyH.cons (o := _) rfl (fun K hK => ?_) AllReadyH.nil; (simp only [List.getElem_toArray, List.getElem_cons_zero, List.getElem_cons_succ, Region.wanted, if_true]); refine wp_store_mid _ _ _ rfl _ _ (ints ms).toArray rfl rfl (by simpa [l2] using (RB.putOther (b' := w.heap.size) 0 (ints ns) (by omega)).there) (by simpa [l2] using hi2) (all_oneCell_toArray (ints_one _)) ?_; (try simp only [List.getElem_toArray, List.getElem_cons_zero, List.getElem_cons_succ, Act.put, List.setIfInBounds_toArray, List.set_cons_zero, List.set_cons_succ, List.toList_toArray]); refine hK.out _ _ (⟨hHeld.1.putOther _ _ (by omega), hHeld.2.putOther _ _ (by omega)⟩) (fun hHeld => ?_); clear hK K)
    refine wpAnyH_done (by kernel_rfl) ?_ _
    clear hHeld RA RB DZ
    go_wp2_with fail
    exact bodyPost_ret (res_has_has rfl _ _ w.heap.size (w.heap.size + 1) ns ms 24 _ (by kernel_rfl) (by kernel_rfl) S1.out S2.out Try.underlying27 rfl (by kernel_rfl)) rfl ⟨ns, ms, rfl, hl, hms, S3.out⟩

end Go.Proofs.Ytlnbhopigjkkkaa.base
