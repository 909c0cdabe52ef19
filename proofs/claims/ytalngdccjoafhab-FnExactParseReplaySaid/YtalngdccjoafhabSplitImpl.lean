/-
  SplitString of the program, walked: its iterator tells the parts of a text one after the other, and its loop collects them in a new slice.
-/
import Derived.RangeFuncBox
import Derived.RangeFuncLeaves
import Derived.Shelf.Abstract
import Derived.WalkKit
import Derived.OwnWalkIn
import Derived.TacticsInMore
import Derived.LoopNIn
import Derived.LoopIn
import Derived.Maps.AppendAt
import Derived.Sort.BigQuietIn
import Derived.OneCell
import Derived.Deep.AppendLies
import Derived.Test.YtalngdccjoafhabSplit
namespace Go.Proofs.Ytalngdccjoafhab.base
open Go.RowKit Go.Shelf
set_option linter.unusedVariables false
set_option linter.unusedSimpArgs false
attribute [local go_sem] Oper.semAt_some

/-- What a round keeps: what lay below n₀, and the two captured boxes. -/
def KeptP (n₀ B1 B2 : Nat) (A B : World) : Prop := Below n₀ A B ∧ B.heap[B1]? = A.heap[B1]? ∧ B.heap[B2]? = A.heap[B2]?
theorem KeptP.refl (n₀ B1 B2 : Nat) (A : World) : KeptP n₀ B1 B2 A A := ⟨Below.refl _ _, rfl, rfl⟩
theorem KeptP.trans {n₀ B1 B2 : Nat} {A B C : World} (h : KeptP n₀ B1 B2 A B) (k : KeptP n₀ B1 B2 B C) : KeptP n₀ B1 B2 A C := ⟨h.1.trans k.1, k.2.1.trans h.2.1, k.2.2.trans h.2.2⟩

theorem mid_prefix {l : List UInt8} {b : UInt8} {k f : Nat} {done : List (List UInt8)} (h : Mid l b k f done) : done.length < (splitL b l).length := by
  rw [h.2.2.1, List.length_append]
  have : splitL b (l.drop f) ≠ [] := splitL_ne b _
  have : 0 < (splitL b (l.drop f)).length := by
    cases hh : splitL b (l.drop f) with
    | nil => exact absurd hh this
    | cons => simp
  omega

theorem below_drewN {B : Nat} {a w : World} (h : Below B a w) (n : Nat) : Below B a (w.drewN n) := ⟨h.os, h.tape, h.output, h.size, h.block⟩
theorem kept_drewN {n₀ B1 B2 : Nat} {a w : World} (h : KeptP n₀ B1 B2 a w) (n : Nat) : KeptP n₀ B1 B2 a (w.drewN n) := ⟨below_drewN h.1 n, h.2.1, h.2.2⟩
theorem seg_list (s : ByteArray) (m k : Nat) : (s.extract m k).data.toList = (s.data.toList.drop m).take (k - m) := Lib.extract_data s m k
theorem end_list (s : ByteArray) (m : Nat) : (s.extract m s.size).data.toList = s.data.toList.drop m := by
  rw [Lib.extract_data, List.take_of_length_le (Nat.le_of_eq (by rw [List.length_drop, bytesize]))]

set_option maxRecDepth 100000 in
set_option maxHeartbeats 2000000 in
theorem parts1_in (n : Nat) (hn : 1 ≤ n) (l B1 B2 n₀ : Nat) (s : ByteArray) (c : Int) (b : UInt8) (hc : c = (b.toNat : Int)) (hs : s.size ≤ 1099511627776) (J Jx : List ByteArray → World → Prop)
    (hY : ∀ pre (x : ByteArray) W, J pre W → pre.length < (splitL b s.data.toList).length → YieldAt Fence.wide (n - 1) Try.prog l #[.string x] W fun e W' =>
      (e = .returned (.bool true) ∧ J (pre ++ [x]) W' ∧ KeptP n₀ B1 B2 W W') ∨ (e = .returned (.bool false) ∧ Jx (pre ++ [x]) W'))
    (hD : ∀ d V q, J d V → J d (World.drewN V q)) (W : World) (h1 : W.cell? ⟨B1, 0, none⟩ = some (.string s)) (h2 : W.cell? ⟨B2, 0, none⟩ = some (.int .u8 c)) (h0 : J [] W) :
    CallsIn Fence.wide n Try.prog 101 #[.func (.yield l) #[] #[], .pointer (some ⟨B1, 0, none⟩), .pointer (some ⟨B2, 0, none⟩)] W fun e W' => (∃ v, e = .returned v) ∧
      ((∃ ys, lists ys = splitL b s.data.toList ∧ J ys W') ∨ (∃ pre, lists pre <+: splitL b s.data.toList ∧ Jx pre W')) := by
  have HC := Lib.hid hc; clear hc
  have HY := Lib.hid hY; clear hY
  have HD := Lib.hid hD; clear hD
  refine callsIn_of_wp Try.func101 rfl trivial ?_ rfl
  simp only [Try.ntmps101, List.size_toArray, List.length_cons, List.length_nil, Nat.reduceAdd, Nat.reduceSub, Array.replicate_succ, Array.replicate_zero, List.push_toArray, List.append_toArray, List.nil_append, List.cons_append]
  gi_wp2
  gi_loopw [4, 8] (fun f i wr => ∃ (k m : Nat) (done : List ByteArray), k ≤ s.size ∧ i = .int .i64 k ∧ f = .int .i64 m ∧ Hid (Mid s.data.toList b k m (lists done)) ∧ Hid (J done wr) ∧ KeptP n₀ B1 B2 W wr)
    (fun f i wr => s.size - (intOf i).toNat)
  case atStart =>
    exact ⟨0, 0, [], Nat.zero_le _, rfl, rfl, Lib.hid (mid_start _ _), Lib.hid h0, KeptP.refl _ _ _ _⟩
  case round =>
    obtain ⟨k, m, done, hk, rfl, rfl, HM, HJ, hb⟩ := hrel
    have hc1 : wr.cell? ⟨B1, 0, none⟩ = some (.string s) := (World.cell?_of_block hb.2.1).trans h1
    have hc2 : wr.cell? ⟨B2, 0, none⟩ = some (.int .u8 c) := (World.cell?_of_block hb.2.2).trans h2
    have hm := HM.out.1
    have HL := Lib.hid (show done.length < (splitL b s.data.toList).length by have := mid_prefix HM.out; rwa [lists_len] at this)
    by_cases hlt : k < s.size
    · have HB := Lib.hid (byteat s k hlt)
      have i0 : (0 : Int) ≤ (k : Int) := by omega
      have i1 : (k : Int) < (s.size : Int) := by omega
      by_cases e : s[k] = b
      · have ht : ((s[k].toNat : Int) != c) = false := by rw [HC.out, e]; simp
        have HM2 : Hid (Mid s.data.toList b (k + 1) (k + 1) (lists (done ++ [s.extract m k]))) := Lib.hid (by rw [lists_snoc, seg_list]; exact mid_cut HM.out (by rw [HB.out, e]))
        clear e
        gi_wp2
        gi_big_quiet_th (fail)
        obtain ⟨fn, tmps, assign, body, hy, hR⟩ := HY.out done (s.extract m k) (wr.drewN nq) (HD.out _ _ nq HJ.out) HL.out
        gi_wp2
        refine hR.mono ?_
        rintro e W' (⟨rfl, hJ', hk'⟩ | ⟨rfl, hJx'⟩)
        · have HJ2 := Lib.hid hJ'
          have hb2 : KeptP n₀ B1 B2 W W' := KeptP.trans (kept_drewN hb nq) hk'
          clear hJ' hk' hR hy
          gi_wp2
          go_roundw
          case rel => exact ⟨k + 1, k + 1, done ++ [s.extract m k], by omega, by go_num, by go_num, HM2, HJ2, hb2⟩
          case measure => simp [intOf]; omega
        · have HX := Lib.hid hJx'
          clear hJx' hR hy
          gi_wp2
          refine bodyPost_ret (results_none rfl _ _ _) rfl ?_
          exact ⟨⟨_, rfl⟩, .inr ⟨done ++ [s.extract m k], ⟨_, (HM2.out.2.2.1).symm⟩, HX.out⟩⟩
      · have ht : ((s[k].toNat : Int) != c) = true := by
          rw [HC.out, bne_iff_ne]; intro h; exact e (UInt8.toNat_inj.1 (by omega))
        have HM2 := Lib.hid (mid_keep HM.out HB.out e)
        clear e
        gi_wp2
        gi_big_quiet_th (fail)
        have HJ2 := Lib.hid (HD.out _ _ nq HJ.out)
        gi_wp2
        go_roundw
        case rel => exact ⟨k + 1, m, done, by omega, by go_num, rfl, HM2, HJ2, kept_drewN hb nq⟩
        case measure => simp [intOf]; omega
    · have hsz : s.data.toList.length ≤ k := by rw [← bytesize]; omega
      have HE : Hid (lists (done ++ [s.extract m s.size]) = splitL b s.data.toList) := Lib.hid (by rw [lists_snoc, end_list, mid_end HM.out hsz])
      obtain ⟨fn, tmps, assign, body, hy, hR⟩ := HY.out done (s.extract m s.size) wr HJ.out HL.out
      clear hsz
      gi_wp2
      refine hR.mono ?_
      rintro e W' (⟨rfl, hJ', hk'⟩ | ⟨rfl, hJx'⟩)
      · have HJ2 := Lib.hid hJ'
        clear hJ' hk' hR hy
        gi_wp2
        go_end0
        exact ⟨⟨_, rfl⟩, .inl ⟨_, HE.out, HJ2.out⟩⟩
      · have HX := Lib.hid hJx'
        clear hJx' hR hy
        gi_wp2
        go_end0
        exact ⟨⟨_, rfl⟩, .inr ⟨_, by rw [HE.out]; exact List.prefix_refl _, HX.out⟩⟩

theorem partsOf_in (n : Nat) (s : ByteArray) (c : Int) (w : World) :
    CallsIn Fence.wide n Try.prog 81 #[.string s, .int .u8 c] w fun e w' => e = .returned (.func (.func 101) #[] #[.pointer (some ⟨w.heap.size, 0, none⟩), .pointer (some ⟨w.heap.size + 1, 0, none⟩)]) ∧ w' = (w.alloc (.cells #[.string s] 9)).alloc (.cells #[.int .u8 c] 5) := by
  refine callsIn_of_wp Try.func81 rfl trivial ?_ rfl
  simp only [Try.ntmps81, List.size_toArray, List.length_cons, List.length_nil, Nat.reduceAdd, Nat.reduceSub, Array.replicate_succ, Array.replicate_zero, List.push_toArray, List.append_toArray, List.nil_append, List.cons_append]
  gi_wp2
  go_ret
  exact ⟨rfl, rfl⟩

theorem abides_drewN {B : Nat} {J : List ByteArray → World → Prop} (hJ : AbidesFrom B J) (d : List ByteArray) (V : World) (q : Nat) (h : J d V) : J d (V.drewN q) :=
  hJ d V (V.drewN q) none h ⟨rfl, rfl, rfl, Nat.le_refl _, fun _ _ _ => rfl⟩ (fun r e => by cases e)

theorem parts_stops (n : Nat) (hn : 1 ≤ n) (B1 B2 n₀ : Nat) (s : ByteArray) (c : Int) (b : UInt8) (hc : c = (b.toNat : Int)) (hs : s.size ≤ 1099511627776) (w : World) (hB1 : B1 < w.heap.size) (hB2 : B2 < w.heap.size)
    (h1 : w.cell? ⟨B1, 0, none⟩ = some (.string s)) (h2 : w.cell? ⟨B2, 0, none⟩ = some (.int .u8 c)) :
    SeqStopsK Fence.wide n Try.prog 101 #[.pointer (some ⟨B1, 0, none⟩), .pointer (some ⟨B2, 0, none⟩)] (fun x : ByteArray => #[Value.string x]) (KeptP n₀ B1 B2) (fun ys => lists ys = splitL b s.data.toList) (fun pre => lists pre <+: splitL b s.data.toList) (splitL b s.data.toList).length w := fun l J Jx W hW hJ _ hY h0 =>
  parts1_in n hn l B1 B2 n₀ s c b hc hs J Jx hY (abides_drewN hJ) W ((hW.cell (p := ⟨B1, 0, none⟩) hB1).trans h1) ((hW.cell (p := ⟨B2, 0, none⟩) hB2).trans h2) h0

theorem split_count (b : UInt8) (l : List UInt8) : (splitL b l).length ≤ l.length + 1 := by
  induction l with
  | nil => simp [splitL]
  | cons c r ih =>
    unfold splitL
    split
    · simp; omega
    · split
      · rename_i p ps hp; rw [hp] at ih; simp at ih ⊢; omega
      · simp

/-- 'append' to a row of the call's own, inside a fence: and where the new row lies. -/
theorem wpListIn_lies {F : Fence} {n : Nat} {P : Program} (w : World) {ops : Array Oper} {rest : List Oper} {o : Oper} {a : Act} {Q : Exit → Act → World → Prop}
    (hg : o.guard = none) (s x : Operand) (t : TypeId) (hop : o.op = Op.call { callee := Callee.builtin Builtin.append, args := #[s, x], argTypes := #[t, t] })
    (base : Nat) (e : TypeId) (i : TypeInfo) (z : Value) (size bytes : Nat) (h1 : P.underlying t = some (.slice e)) (h2 : P.info? e = some i) (h3 : i.zero = some z) (h4 : i.size = size) (h5 : i.bytes = bytes) (h6 : z.cells.size = size) (h7 : 0 < size)
    (v : Value) (k : Nat) (xs : List Value) (hs : a.eval s = v) (hown : w.ownsRow base e size v k xs) (ad : Addr) (m c : Nat) (news : List Value) (hx : a.eval x = .slice (some ad) m c) (hn : news.length = m * size)
    (hc : ∀ j u, news[j]? = some u → w.cell? (ad.add j) = some u) (h1c : ∀ u ∈ news, u.oneCell' = true) (hm : 0 < m) (b1 : k + m ≤ maxLen) (b2 : (k + m) * bytes ≤ 140737488355328) (b3 : base ≤ w.heap.size)
    (hK : ∀ g cap w', w'.ownsRow base e size (.slice (some ⟨g, 0, none⟩) (k + m) cap) (k + m) (xs ++ news) → w.grownBy w' v.ownBlock → (v.ownBlock = some g ∨ g = w.heap.size) → wpListIn F n P ops Q rest (a.put o.dst (.slice (some ⟨g, 0, none⟩) (k + m) cap)) w') :
    wpListIn F n P ops Q (o :: rest) a w := by
  refine wpListIn_plain hg fun K hK' => ?_
  obtain ⟨g, cap, w', hrun, r1, r2, r3, _⟩ := run_append_lies (P := P) w t o.type base e i z size bytes h1 h2 h3 h4 h5 h6 h7 v k xs hown ad m c news hn hc h1c hm b1 b2 b3 _ rfl
  unfold Oper.wpIn
  refine ⟨?_, ?_⟩
  · simp [Oper.about, hop, resolve, Target.leads, Sem.run_pure]
  · rw [Oper.semAt_plain F _ _ (by rw [hop]; intro c hc'; cases hc')]
    simp [execOp, hop, resolve, invoke, builtin, hs, hx, hrun, Result.andThen]
    exact hK' _ _ (hK g cap w' r1 r2 r3)

/-- What the loop's world holds when 'pre' has come: the box of the slice, the slice's row, the two captured boxes. -/
def Lay (w : World) (s : ByteArray) (c : Int) (pre : List ByteArray) (W : World) : Prop := ∃ g cap : Nat,
  W.heap[w.heap.size + 1]? = some (.cells #[.slice (some ⟨g, 0, none⟩) pre.length cap] 76 (0, 0)) ∧
  W.ownsRow w.heap.size 9 1 (.slice (some ⟨g, 0, none⟩) pre.length cap) pre.length (pre.map Value.string) ∧ (g = w.heap.size ∨ w.heap.size + 4 ≤ g) ∧
  W.heap[w.heap.size + 1 + 1]? = some (.cells #[.string s] 9 (0, 0)) ∧ W.heap[w.heap.size + 1 + 1 + 1]? = some (.cells #[.int .u8 c] 5 (0, 0)) ∧ Below w.heap.size w W ∧ w.heap.size + 4 ≤ W.heap.size

theorem lay_own (w : World) (s : ByteArray) (c : Int) : OwnFrom (w.heap.size + 4) (Lay w s c) := by
  rintro pre W W' row ⟨g, cap, h1, h2, h3, h4, h5, h6, h7⟩ hg hr
  have hk : ∀ k, k < w.heap.size + 4 → W'.heap[k]? = W.heap[k]? := fun k hk => hg.block k (by omega) (fun e => by have := (hr k e.symm).1; omega)
  refine ⟨g, cap, (hk _ (by omega)).trans h1, ?_, h3, (hk _ (by omega)).trans h4, (hk _ (by omega)).trans h5, ?_, Nat.le_trans h7 hg.size⟩
  · refine h2.kept hg (.inr fun e => ?_)
    obtain ⟨_, o, ho, hc⟩ := hr g (by rw [← e]; rfl)
    rcases h2.2 with ⟨hn, _⟩ | ⟨g', cap', cur, hv, _, hb, _⟩
    · cases hn
    · simp only [Value.slice.injEq, Option.some.injEq, Addr.mk.injEq, and_true, true_and] at hv
      rw [← hv.1, ho] at hb; cases hb; cases hc
  · exact h6.grown hg h6.size (fun r e => by have := (hr r e).1; omega)

theorem lay_start (w : World) (s : ByteArray) (c : Int) : Lay w s c [] ((((w.alloc (.cells #[] 9)).alloc (.cells #[.slice (some ⟨w.heap.size, 0, none⟩) 0 0] 76)).alloc (.cells #[.string s] 9)).alloc (.cells #[.int .u8 c] 5)) := by
  have hp : ((((w.alloc (.cells #[] 9)).alloc (.cells #[.slice (some ⟨w.heap.size, 0, none⟩) 0 0] 76)).alloc (.cells #[.string s] 9)).alloc (.cells #[.int .u8 c] 5)).heap = (((w.heap.push (.cells #[] 9)).push (.cells #[.slice (some ⟨w.heap.size, 0, none⟩) 0 0] 76)).push (.cells #[.string s] 9)).push (.cells #[.int .u8 c] 5) := rfl
  have p0 : ((((w.alloc (.cells #[] 9)).alloc (.cells #[.slice (some ⟨w.heap.size, 0, none⟩) 0 0] 76)).alloc (.cells #[.string s] 9)).alloc (.cells #[.int .u8 c] 5)).heap[w.heap.size]? = some (.cells #[] 9 (0, 0)) := by
    rw [hp]; simp only [Array.getElem?_push, Array.size_push]
    rw [if_neg (by omega), if_neg (by omega), if_neg (by omega), if_pos trivial]
  refine ⟨w.heap.size, 0, ?_, ⟨rfl, .inr ⟨w.heap.size, 0, #[], rfl, Nat.le_refl _, p0, Nat.le_refl _, Nat.zero_le _, rfl, rfl⟩⟩, .inl rfl, ?_, ?_, ?_, ?_⟩
  · rw [hp]; simp only [Array.getElem?_push, Array.size_push]
    rw [if_neg (by omega), if_neg (by omega), if_pos trivial]; rfl
  · rw [hp]; simp only [Array.getElem?_push, Array.size_push]
    rw [if_neg (by omega), if_pos trivial]
  · rw [hp]; simp only [Array.getElem?_push, Array.size_push]
    rw [if_pos trivial]
  · exact ((((Below.refl _ w).alloc (Nat.le_refl _) _).alloc (by simp) _).alloc (by simp; omega) _).alloc (by simp; omega) _
  · rw [hp]; simp

theorem lay_box {w : World} {W w1 : World} {x : ByteArray} {g cap n : Nat}
    (h1 : W.heap[w.heap.size + 1]? = some (.cells #[.slice (some ⟨g, 0, none⟩) n cap] 76 (0, 0))) (h3 : g = w.heap.size ∨ w.heap.size + 4 ≤ g)
    (k2 : (W.alloc (.cells #[.string x] 9)).grownBy w1 (some g)) : w1.heap[w.heap.size + 1]? = some (.cells #[.slice (some ⟨g, 0, none⟩) n cap] 76 (0, 0)) := by
  have hl := lt_of_block h1
  exact ((k2.block _ (by simp; omega) (fun e => by injection e with e; omega)).trans (Below.heap_alloc W _ _ hl)).trans h1

theorem kept_put (m B1 B2 : Nat) (W : World) (l : Nat) (o o' : Obj) (h1 : B1 < l) (h2 : B2 < l) (hm : m ≤ l) (hl : W.heap[l]? = some o) : KeptP m B1 B2 W (W.putObj l o') := by
  have hg := grownBy_putObj' W l o'
  have hlt := lt_of_block hl
  refine ⟨(Below.refl m W).grown hg (by omega) (fun r e => by injection e with e; omega), ?_, ?_⟩
  · exact hg.block B1 (by omega) (fun e => by injection e with e; omega)
  · exact hg.block B2 (by omega) (fun e => by injection e with e; omega)

theorem lay_step {w : World} {s : ByteArray} {c : Int} {pre : List ByteArray} {W w1 : World} {x : ByteArray} {g cap g' cap' : Nat}
    (h1 : W.heap[w.heap.size + 1]? = some (.cells #[.slice (some ⟨g, 0, none⟩) pre.length cap] 76 (0, 0)))
    (h2 : W.ownsRow w.heap.size 9 1 (.slice (some ⟨g, 0, none⟩) pre.length cap) pre.length (pre.map Value.string)) (h3 : g = w.heap.size ∨ w.heap.size + 4 ≤ g)
    (h4 : W.heap[w.heap.size + 1 + 1]? = some (.cells #[.string s] 9 (0, 0))) (h5 : W.heap[w.heap.size + 1 + 1 + 1]? = some (.cells #[.int .u8 c] 5 (0, 0))) (h6 : Below w.heap.size w W) (h7 : w.heap.size + 4 ≤ W.heap.size)
    (k1 : w1.ownsRow w.heap.size 9 1 (.slice (some ⟨g', 0, none⟩) (pre.length + 1) cap') (pre.length + 1) (pre.map Value.string ++ [.string x]))
    (k2 : (W.alloc (.cells #[.string x] 9)).grownBy w1 (some g)) (k3 : g = g' ∨ g' = (W.alloc (.cells #[.string x] 9)).heap.size) :
    Lay w s c (pre ++ [x]) (w1.setCell ⟨w.heap.size + 1, 0, none⟩ (.slice (some ⟨g', 0, none⟩) (pre.length + 1) cap')) ∧
    KeptP w.heap.size (w.heap.size + 1 + 1) (w.heap.size + 1 + 1 + 1) W (w1.setCell ⟨w.heap.size + 1, 0, none⟩ (.slice (some ⟨g', 0, none⟩) (pre.length + 1) cap')) ∧
    KeepsOthers W (w1.setCell ⟨w.heap.size + 1, 0, none⟩ (.slice (some ⟨g', 0, none⟩) (pre.length + 1) cap')) := by
  have hgs : g' = w.heap.size ∨ w.heap.size + 4 ≤ g' := by
    rcases k3 with rfl | rfl
    · exact h3
    · right; simp; omega
  have hk : ∀ k, k < W.heap.size → k ≠ g → w1.heap[k]? = W.heap[k]? := fun k hk hne => (k2.block k (by simp; omega) (fun e => hne (by injection e))).trans (Below.heap_alloc W _ k hk)
  have hs1 : W.heap.size ≤ w1.heap.size := Nat.le_trans (by simp) k2.size
  have e1 := (hk (w.heap.size + 1) (by omega) (by omega)).trans h1
  have e2 := (hk (w.heap.size + 1 + 1) (by omega) (by omega)).trans h4
  have e3 := (hk (w.heap.size + 1 + 1 + 1) (by omega) (by omega)).trans h5
  have hbW : Below w.heap.size W w1 := (((Below.refl w.heap.size W).alloc (by omega) _)).grown k2 (by simp; omega) (fun r e => by injection e with e; omega)
  have so : ∀ k, k ≠ w.heap.size + 1 → (w1.setCell ⟨w.heap.size + 1, 0, none⟩ (.slice (some ⟨g', 0, none⟩) (pre.length + 1) cap')).heap[k]? = w1.heap[k]? := fun k hk => Below.heap_setCell w1 _ _ k hk
  refine ⟨⟨g', cap', ?_, ?_, hgs, (so _ (by omega)).trans e2, (so _ (by omega)).trans e3, (h6.trans hbW).setCell (p := ⟨w.heap.size + 1, 0, none⟩) (by show w.heap.size ≤ w.heap.size + 1; omega) _, ?_⟩,
    ⟨hbW.setCell (p := ⟨w.heap.size + 1, 0, none⟩) (by show w.heap.size ≤ w.heap.size + 1; omega) _, ((so _ (by omega)).trans e2).trans h4.symm, ((so _ (by omega)).trans e3).trans h5.symm⟩, ?_⟩
  · rw [List.length_append]; exact one_setCell e1
  · rw [List.length_append, List.map_append]
    exact ownsRow_setCell_other k1 (fun e => by simp only [Value.ownBlock, Option.some.injEq] at e; omega) _
  · have : (w1.setCell ⟨w.heap.size + 1, 0, none⟩ (.slice (some ⟨g', 0, none⟩) (pre.length + 1) cap')).heap.size = w1.heap.size := by simp
    omega
  · refine ((KeepsOthers.alloc W _).trans (KeepsOthers.of_grownBy k2 fun j o ej hj => ?_)).trans (KeepsOthers.setCell _ _ _)
    injection ej with ej; subst ej
    rcases (h2.alloc (.cells #[.string x] 9)).2 with ⟨hn, _⟩ | ⟨g2, cap2, cur, hv, _, hb, _⟩
    · cases hn
    · simp only [Value.slice.injEq, Option.some.injEq, Addr.mk.injEq, and_true, true_and] at hv
      rw [← hv.1, hj] at hb; cases hb; rfl

set_option maxRecDepth 100000 in
set_option maxHeartbeats 2000000 in
theorem implSplit_in (s sep : ByteArray) (w : World) (h1 : (s.size : Int) ≤ 4000) (hsep : sep.size = 1) :
    Calls Try.prog 51 #[.string s, .string sep] w fun e w' => ∃ v : Value, e = .returned (.tuple #[v, .bool true]) ∧ IsParts w w' v (splitL (sep.data.toList.headD 0) s.data.toList) := by
  refine (callsIn_wide (n := 9)).1 ?_
  obtain ⟨i0, hi, hz0, hz1, hz2⟩ := info_parts infoStr
  have hcount := split_count (sep.data.toList.headD 0) s.data.toList
  have hb0 : 0 < sep.size := by omega
  have hhd : sep.data.toList.headD 0 = sep[0] := by
    have := byteat sep 0 hb0
    cases hl : sep.data.toList with
    | nil => rw [hl] at this; cases this
    | cons a r => rw [hl] at this; simpa using this
  rw [hhd] at hcount ⊢
  have HL := Lib.hid hcount
  have hs := bytesize s
  have HN := Lib.hid (show (splitL sep[0] s.data.toList).length ≤ 4001 by omega)
  clear hcount hhd hs
  have q1 : decide ((4000 : Int) < (s.size : Int)) = false := by simp; omega
  have q2 : ((sep.size : Int) != 1) = false := by rw [hsep]; rfl
  have q3 : (0 : Int) < (sep.size : Int) := by omega
  have HS := Lib.hid hsep
  clear hsep
  refine callsIn_of_wp_marks Try.func51 rfl trivial ?_ rfl
  simp only [Try.ntmps51, List.size_toArray, List.length_cons, List.length_nil, Nat.reduceAdd, Nat.reduceSub, Array.replicate_succ, Array.replicate_zero, List.push_toArray, List.append_toArray, List.nil_append, List.cons_append]
  gi_wp2_with fail
  refine ⟨trivial, (partsOf_in _ _ _ _).mono ?_⟩
  rintro e w' ⟨rfl, rfl⟩
  gi_wp2_with fail
  have HL0 : Lay w s (sep[0].toNat : Int) [] ((((w.alloc (.cells #[] 9)).alloc (.cells #[.slice (some ⟨w.heap.size, 0, none⟩) 0 0] 76)).alloc (.cells #[.string s] 9)).alloc (.cells #[.int .u8 (sep[0].toNat : Int)] 5)) := lay_start w s _
  refine wpIn_rangeFunc_ownG (n := 9) rfl (by omega) (gf := 101) (lb := #[.pointer (some ⟨w.heap.size + 1 + 1, 0, none⟩), .pointer (some ⟨w.heap.size + 1 + 1 + 1, 0, none⟩)]) rfl trivial (enters_of Try.func101 (by kernel_rfl) rfl)
    (parts_stops (9 - 1) (by omega) (w.heap.size + 1 + 1) (w.heap.size + 1 + 1 + 1) w.heap.size s (sep[0].toNat : Int) sep[0] rfl (by omega) _ (by simp) (by simp) (cell_of_one HL0.choose_spec.choose_spec.2.2.2.1) (cell_of_one HL0.choose_spec.choose_spec.2.2.2.2.1))
    KeptP.trans ?kb (Below.refl _ _) (fun _ => rfl)
    (Lay w s (sep[0].toNat : Int)) (fun _ _ _ => False) ?own (fun _ _ _ _ _ hs _ _ => hs) HL0
    (fun x => { tmps := #[.string s, .string sep, undef, undef, .slice none 0 0, .bool false, .pointer (some ⟨w.heap.size + 1, 0, none⟩), .string x, .string s, .int .i64 (s.size : Int), .bool false, .bool false, .string sep, .int .i64 (sep.size : Int), .bool false, .bool false, undef, .slice (some ⟨w.heap.size, 0, none⟩) 0 0, .string s, .string sep, .int .u8 (sep[0].toNat : Int), .func (.func 101) #[] #[.pointer (some ⟨w.heap.size + 1 + 1, 0, none⟩), .pointer (some ⟨w.heap.size + 1 + 1 + 1, 0, none⟩)], .string x, undef, undef, undef, undef, undef], defers := [] }) ?assign ?body ?done ?stop
  case kb =>
    intro W l o o' hl ho _ _
    simp only [World.size_alloc] at hl
    exact kept_put _ _ _ W l o o' (by omega) (by omega) (by omega) ho
  case own =>
    have e : ((((w.alloc (.cells #[] 9)).alloc (.cells #[.slice (some ⟨w.heap.size, 0, none⟩) 0 0] 76)).alloc (.cells #[.string s] 9)).alloc (.cells #[.int .u8 (sep[0].toNat : Int)] 5)).heap.size = w.heap.size + 4 := by simp
    rw [e]; exact lay_own w s _
  case assign =>
    intro l x W K hK
    gi_wp2
    exact hK
  case body =>
    rintro l pre x W ⟨g, cap, h1, h2, h3, h4, h5, h6, h7⟩ hlt
    have hc := cell_of_one h1
    have hpl : pre.length ≤ 4001 := Nat.le_trans (Nat.le_of_lt hlt) HN.out
    have HB := Lib.hid (@lay_box w W · x g cap pre.length h1 h3)
    have HS1 := Lib.hid (@lay_step w s (sep[0].toNat : Int) pre W · x g cap · · h1 h2 h3 h4 h5 h6 h7)
    have hm0 : w.heap.size ≤ W.heap.size := by omega
    clear h1 h3 h4 h5 h6 h7
    gi_wp2_with (gi_at_builtin; refine wpListIn_lies _ rfl _ _ 76 rfl w.heap.size 9 i0 (.string ByteArray.empty) 1 16 Try.underlying76 hi hz0 hz1 hz2 rfl (by decide) _ _ _ rfl (h2.alloc _) ⟨W.heap.size, 0, none⟩ 1 1 [.string x] rfl rfl (cell_one_new _ _ _) (by simp [Value.oneCell']) (by decide) (by unfold maxLen; omega) (by omega) (by simp; omega) ?_; intro g' cap' w1 k1 k2 k3; have hc1 := cell_of_one (HB.out w1 k2); have hf1 := free_of_one (HB.out w1 k2); have K := Lib.hid (HS1.out w1 g' cap' k1 k2 (k3.imp (fun e => Option.some.inj e) id)); clear k1 k2 k3)
    exact ⟨K.out.2.2.from _, K.out.2.1, K.out.1⟩
  case done =>
    rintro D ys W hD hS ⟨g, cap, h1, h2, h3, h4, h5, h6, h7⟩ hK
    have hc := cell_of_one h1
    have hlen : ys.length = (splitL sep[0] s.data.toList).length := by rw [← hS, lists_len]
    have hD' : w.heap.size ≤ D := by simp only [World.size_alloc] at hD; omega
    have HP : Hid (IsParts w (W.putObj D (.deferred none)) (.slice (some ⟨g, 0, none⟩) ys.length cap) (splitL sep[0] s.data.toList)) := Lib.hid (by
      refine ⟨?_, h6.trans (belowK_b (w := w) (Nat.le_refl _) W D _ _ hD' hK rfl rfl)⟩
      rw [← hlen, ← hS, lists_val]
      exact ownsRow_putObj h2 _ hK rfl)
    clear h1 h2 h3 h4 h5 h6 h7 hS hlen
    gi_wp2
    refine ⟨by simp, .inl ⟨_, _, rfl, run_takeDeferred hK, ?_⟩⟩
    exact ⟨_, results_tmp2 rfl _ _ _, _, rfl, HP.out⟩
  case stop =>
    rintro D c pre W _ _ h _
    exact h.elim
end Go.Proofs.Ytalngdccjoafhab.base
