/-
  Racks mixed by choices: plain mathematics, and whether a choice is negative, walked.
-/
import Derived.Test.YthnkfdhnbafcjabNu
import Derived.Test.YthnkfdhnbafcjabBackP
import Derived.Test.YthnkfdhnbafcjabSrcM
namespace Go.Proofs.Ythnkfdhnbafcjab.base
open Go.ChangeShapes Go.WideShapes Go.ChangeAt Go.RowKit
set_option linter.unusedVariables false
set_option linter.unusedSimpArgs false

def isGd (r : List Int) : Bool := decide ((srcA r).length = 0)
/-- The source that a choice takes. -/
def mxS (r : List Int) (z : Int) : List Int := (srcA r).getD (z.toNat % (srcA r).length) []
/-- The rack behind the first k choices. -/
def mxR (ns zs : List Int) : Nat → List Int
  | 0 => ns
  | k + 1 => if isGd (mxR ns zs k) = true then mxR ns zs k else backRL (mxR ns zs k) (mxS (mxR ns zs k) (zs.getD k 0))
def mxPr (r : List Int) (z : Int) : List Int := [(mxS r z).getD 0 0, (mxS r z).getD 1 0]
/-- The pours that the first k choices have found, the last one first. -/
def mxL (ns zs : List Int) : Nat → List (List Int)
  | 0 => []
  | k + 1 => if isGd (mxR ns zs k) = true then mxL ns zs k else mxPr (mxR ns zs k) (zs.getD k 0) :: mxL ns zs k
def negUp (zs : List Int) (k : Nat) : Bool := (zs.take k).any (fun z => decide (z < 0))
def mxOk (ns zs : List Int) (n : Nat) : Bool := vR ns && (decide (n ≤ 20) && !negUp zs n)
def mxRA (ns zs : List Int) (n : Nat) : List Int := if mxOk ns zs n = true then mxR ns zs n else z24
def mxLA (ns zs : List Int) (n : Nat) : List (List Int) := if mxOk ns zs n = true then mxL ns zs n else []
theorem negUp_succ {zs : List Int} {k : Nat} (h : k < zs.length) : negUp zs (k + 1) = (negUp zs k || decide (zs.getD k 0 < 0)) := by
  unfold negUp
  rw [List.take_succ_eq_append_getElem h, List.any_append, List.getD_eq_getElem?_getD, List.getElem?_eq_getElem h]; simp
theorem negUp_not {zs : List Int} {n : Nat} (h : negUp zs n = false) (hl : zs.length = n) {k : Nat} (hk : k < n) : 0 ≤ zs.getD k 0 := by
  unfold negUp at h
  rw [List.take_of_length_le (by omega), List.any_eq_false] at h
  have hm : zs.getD k 0 ∈ zs := by rw [List.getD_eq_getElem?_getD, List.getElem?_eq_getElem (by omega)]; exact List.getElem_mem _
  exact Int.not_lt.1 (fun hc => h _ hm (decide_eq_true hc))
theorem mxR_len {ns : List Int} (h : ns.length = 24) (zs : List Int) : ∀ k, (mxR ns zs k).length = 24
  | 0 => h
  | k + 1 => by
    rw [mxR]
    split
    · exact mxR_len h zs k
    · exact backRL_len (mxR_len h zs k) _
theorem mxS_mem {r : List Int} (h : isGd r = false) (z : Int) : z.toNat % (srcA r).length < (srcA r).length := by
  unfold isGd at h
  have : (srcA r).length ≠ 0 := by simpa using h
  exact Nat.mod_lt _ (by omega)
theorem mx_getD_mem {ls : List (List Int)} {k : Nat} (h : k < ls.length) : ls.getD k [] ∈ ls := by
  rw [List.getD_eq_getElem?_getD, List.getElem?_eq_getElem h]; exact List.getElem_mem h
theorem mxS_len {r : List Int} (h : isGd r = false) (z : Int) : (mxS r z).length = 3 := srcA_len3 r _ (mx_getD_mem (mxS_mem h z))
theorem mxR_valid {ns : List Int} (h : ns.length = 24) (hv : vR ns = true) (zs : List Int) : ∀ k, vR (mxR ns zs k) = true
  | 0 => hv
  | k + 1 => by
    rw [mxR]
    split
    · exact mxR_valid h hv zs k
    next hg =>
      have hg : isGd (mxR ns zs k) = false := by simpa using hg
      obtain ⟨i, j, m, hx, hb⟩ := srcA_mem (mxR ns zs k) _ (mx_getD_mem (mxS_mem hg (zs.getD k 0)))
      have hx : mxS (mxR ns zs k) (zs.getD k 0) = [i, j, m] := hx
      rw [hx]
      exact backR_valid (mxR_len h zs k) hb
/-- Behind a garden nothing more is found. -/
theorem mx_stop {ns zs : List Int} {k : Nat} (h : isGd (mxR ns zs k) = true) : ∀ m, mxR ns zs (k + m) = mxR ns zs k ∧ mxL ns zs (k + m) = mxL ns zs k
  | 0 => ⟨rfl, rfl⟩
  | m + 1 => by
    obtain ⟨h1, h2⟩ := mx_stop h m
    rw [← Nat.add_assoc, mxR, mxL, h1, h2, if_pos h, if_pos h]
    exact ⟨rfl, rfl⟩
theorem mx_stopN {ns zs : List Int} {k n : Nat} (h : isGd (mxR ns zs k) = true) (hk : k ≤ n) : mxR ns zs n = mxR ns zs k ∧ mxL ns zs n = mxL ns zs k := by
  have := mx_stop h (n - k)
  rwa [show k + (n - k) = n by omega] at this
theorem mxL_le (ns zs : List Int) : ∀ k, (mxL ns zs k).length ≤ k
  | 0 => Nat.le_refl _
  | k + 1 => by
    have := mxL_le ns zs k
    rw [mxL]
    split
    · omega
    · rw [List.length_cons]; omega
theorem mxL_two (ns zs : List Int) : ∀ k, ∀ x ∈ mxL ns zs k, x.length = 2
  | 0, x, h => absurd h List.not_mem_nil
  | k + 1, x, h => by
    rw [mxL] at h
    split at h
    · exact mxL_two ns zs k x h
    · rcases List.mem_cons.1 h with h1 | h1
      · rw [h1]; rfl
      · exact mxL_two ns zs k x h1
theorem mx_go {ns zs : List Int} {k : Nat} (h : isGd (mxR ns zs k) = false) : mxR ns zs (k + 1) = backRL (mxR ns zs k) (mxS (mxR ns zs k) (zs.getD k 0)) ∧ mxL ns zs (k + 1) = mxPr (mxR ns zs k) (zs.getD k 0) :: mxL ns zs k := by
  rw [mxR, mxL, h]; exact ⟨rfl, rfl⟩
theorem mxRA_len {ns : List Int} (h : ns.length = 24) (zs : List Int) (n : Nat) : (mxRA ns zs n).length = 24 := by
  unfold mxRA
  split
  · exact mxR_len h zs n
  · rfl
theorem mxLA_le (ns zs : List Int) (n : Nat) : (mxLA ns zs n).length ≤ 20 := by
  unfold mxLA
  split
  next h =>
    have h2 : n ≤ 20 := by unfold mxOk at h; simp at h; exact h.2.1
    have := mxL_le ns zs n; omega
  · simp
def MxPost (ns zs : List Int) (n : Nat) (w : World) (e : Ending) (w' : World) : Prop := ∃ v : Value, e = .returned (.tuple #[.agg (ints (mxRA ns zs n)).toArray, v, .bool (mxOk ns zs n)]) ∧ Gr w' w.heap.size 52 2 v (mxLA ns zs n) ∧ Kept w w'
theorem nums_of {w : World} {a : Option Addr} {len cap : Nat} {zs : List Int} (h : (a = none ∧ len = 0 ∧ cap = 0 ∧ zs = []) ∨ ∃ x : Addr, a = some x ∧ len ≤ cap ∧ cap ≤ maxLen ∧ zs.length = cap ∧ (∀ i, i < zs.length → w.cell? (x.add i) = some (.int .i64 (zs.getD i 0))) ∧ ∀ n ∈ zs, (Lit.int .i64 n).wf = true) : IsNums w a len (zs.take len) := by
  rcases h with ⟨_, h, _, rfl⟩ | ⟨⟨b, off, spot⟩, rfl, hlc, hm, hz, hcell, hwf⟩
  · exact ⟨by omega, by simp [h], .inl h⟩
  · refine ⟨by omega, by rw [List.length_take]; omega, ?_⟩
    by_cases h0 : len = 0
    · exact .inl h0
    · have hc := hcell 0 (by omega)
      have hspot : spot = none := by simpa [Addr.add] using World.cell?_spot hc
      subst hspot
      have hc0 : w.cell? ⟨b, off, none⟩ = some (.int .i64 (zs.getD 0 0)) := by simpa [Addr.add] using hc
      refine .inr ⟨b, off, rfl, World.block_lt_of_cell? _ _ hc0, fun j hj => ?_⟩
      have := hcell j (by omega)
      have hadd : (⟨b, off, none⟩ : Addr).add j = ⟨b, off + j, none⟩ := by unfold Addr.add; split <;> simp_all
      rw [hadd] at this
      rw [this, List.getD_eq_getElem?_getD, List.getD_eq_getElem?_getD, List.getElem?_take, if_pos hj]

set_option maxHeartbeats 400000 in
theorem neg_any (x : Int) (w : World) : Calls Try.prog 38 #[.int .i64 x] w fun e w' => e = .returned (.bool (decide (x < 0))) ∧ w' = w := by
  by_cases h : x < 0
  · have hd := decide_eq_true h
    go_enter Try.func38, Try.ntmps38
    go_wp2_with fail
    go_ret
    exact ⟨by first | rfl | (rw [hd]; rfl), rfl⟩
  · have hd := decide_eq_false h
    go_enter Try.func38, Try.ntmps38
    go_wp2_with fail
    go_ret
    exact ⟨by first | rfl | (rw [hd]; rfl), rfl⟩

set_option maxHeartbeats 400000 in
theorem indexNeg_any (b : Nat) (v : Value) (n : Nat) (xs : List Int) (w : World) (hn : n ≤ 1048576) (h : Nu w b v n xs) :
    Calls Try.prog 65 #[v, .func (Fn.func 38) #[] #[]] w fun e w' => (∃ z : Int, e = .returned (.int .i64 z) ∧ (decide (0 ≤ z) = negUp xs n)) ∧ w' = w := by
  cases n with
  | zero =>
    obtain ⟨a1, c1, rfl⟩ := h.shape
    clear h
    go_enter Try.func65, Try.ntmps65
    go_wp2_with fail
    go_loop [8] (fun i => i = .int .i64 0) (fun i => 0)
    case atStart => rfl
    case round =>
      obtain rfl := hrel
      go_wp2_with fail
      go_ret
      exact ⟨⟨-1, rfl, rfl⟩, rfl⟩
  | succ n =>
    obtain ⟨g, c, rfl, _, _⟩ := h.form (by omega)
    have HH := Lib.hid h
    have HL := h.flat
    clear h
    go_enter Try.func65, Try.ntmps65
    go_wp2_with fail
    go_loop [8] (fun i => ∃ j : Nat, j ≤ n + 1 ∧ i = .int .i64 j ∧ Hid (negUp xs j = false)) (fun i => n + 1 - (intOf i).toNat)
    case atStart => exact ⟨0, by omega, rfl, Lib.hid rfl⟩
    case round =>
      obtain ⟨j, hj, rfl, HN⟩ := hrel
      by_cases h : j < n + 1
      · have c0 := HH.out.cell j h
        have hji : (j : Int) < (n : Int) + 1 := by omega
        have M := Lib.hid (negUp_succ (zs := xs) (k := j) (by omega))
        generalize xs.getD j 0 = y at *
        go_wp2_with fail
        refine (neg_any y _).mono ?_
        rintro e w' ⟨rfl, rfl⟩
        by_cases hy : y < 0
        · have R := Lib.hid (show decide ((0 : Int) ≤ (j : Int)) = negUp xs (n + 1) from by
            have h1 : negUp xs (j + 1) = true := by rw [M.out, decide_eq_true hy, Bool.or_true]
            have h2 : negUp xs (n + 1) = true := by
              unfold negUp at h1 ⊢
              rw [List.any_eq_true] at h1 ⊢
              obtain ⟨z, hz, hz2⟩ := h1
              exact ⟨z, by rw [List.take_of_length_le (by omega)]; exact List.mem_of_mem_take hz, hz2⟩
            rw [h2]; simp)
          rw [decide_eq_true hy]
          clear hy M
          go_wp2_with fail
          go_ret
          exact ⟨⟨(j : Int), rfl, R.out⟩, rfl⟩
        · have N2 := Lib.hid (show negUp xs (j + 1) = false by rw [M.out, decide_eq_false hy, HN.out]; rfl)
          rw [decide_eq_false hy]
          clear hy M
          go_wp2_with fail
          go_round
          case rel => exact ⟨j + 1, by omega, by go_num, N2⟩
          case measure => simp [intOf]; omega
      · obtain rfl : j = n + 1 := by omega
        go_wp2_with fail
        go_ret
        exact ⟨⟨-1, rfl, by rw [HN.out]; rfl⟩, rfl⟩

set_option maxHeartbeats 400000 in
theorem hasNeg_any (b : Nat) (v : Value) (n : Nat) (xs : List Int) (w : World) (hn : n ≤ 1048576) (h : Nu w b v n xs) :
    Calls Try.prog 40 #[v, .func (Fn.func 38) #[] #[]] w fun e w' => e = .returned (.bool (negUp xs n)) ∧ w' = w := by
  have HH := Lib.hid h
  go_enter Try.func40, Try.ntmps40
  go_wp2_with fail
  refine (indexNeg_any b v n xs _ hn HH.out).mono ?_
  rintro e w' ⟨⟨z, rfl, hz⟩, rfl⟩
  have HZ := Lib.hid hz
  clear hz
  go_wp2_with fail
  go_ret
  exact ⟨by rw [← HZ.out]; rfl, rfl⟩
end Go.Proofs.Ythnkfdhnbafcjab.base
