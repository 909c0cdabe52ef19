/-
  JoinStrings of the program and of the model, walked over a row of strings: both return the joined text and true, or the empty string and false.
-/
import Derived.Test.YtbjahiebajgfeaaCanJoin
import Derived.Test.YtbjahiebajgfeaaShelfJ
import Derived.Lib.Join
namespace Go.Proofs.Ytbjahiebajgfeaa.base
open Go.ChangeShapes Go.WideShapes Go.ChangeAt Go.RowKit
set_option linter.unusedVariables false

def bytesOf (xs : List ByteArray) : List (List UInt8) := xs.map (·.data.toList)
/-- The joined text of the first k. -/
def outOf (xs : List ByteArray) (sep : List UInt8) (k : Nat) : List UInt8 := Lib.join (bytesOf (xs.take k)) sep

theorem join_snoc (sep : List UInt8) (l : List (List UInt8)) (x : List UInt8) : Lib.join (l ++ [x]) sep = if l = [] then x else Lib.join l sep ++ sep ++ x := by
  induction l with
  | nil => rw [if_pos rfl]; exact Lib.join_one x sep
  | cons a r ih =>
    rw [if_neg (by simp), List.cons_append, Lib.join_cons, Lib.join_cons]
    unfold Lib.joinTail
    rw [List.map_append, List.flatten_append]; simp

theorem outOf_succ (xs : List ByteArray) (sep : List UInt8) (k : Nat) (x : ByteArray) (h : xs[k]? = some x) : outOf xs sep (k + 1) = if k = 0 then x.data.toList else outOf xs sep k ++ sep ++ x.data.toList := by
  have hlt : k < xs.length := by
    rcases Nat.lt_or_ge k xs.length with h1 | h1
    · exact h1
    · rw [List.getElem?_eq_none h1] at h; cases h
  unfold outOf bytesOf
  rw [List.take_succ_eq_append_getElem hlt, List.map_append]
  rw [List.getElem?_eq_getElem hlt] at h; injection h with h
  rw [List.map_singleton, join_snoc, h]
  by_cases hk : k = 0
  · subst hk; simp
  · rw [if_neg hk, if_neg]
    intro e
    have h2 := congrArg List.length e
    rw [List.length_map, List.length_take] at h2
    have h3 : min k xs.length = 0 := h2
    omega

theorem outOf_len (xs : List ByteArray) (sep : List UInt8) (hs : sep.length = 1) : ∀ k, k ≤ xs.length → (outOf xs sep k).length = k - 1 + sizes (xs.take k) := by
  intro k
  induction k with
  | zero => intro _; simp [outOf, bytesOf, Lib.join_nil, sizes]
  | succ k ih =>
    intro hk
    have hlt : k < xs.length := by omega
    have hx : xs[k]? = some xs[k] := List.getElem?_eq_getElem hlt
    rw [outOf_succ xs sep k _ hx, sizes_snoc xs k _ hx]
    by_cases h0 : k = 0
    · subst h0
      have e0 : sizes (xs.take 0) = 0 := rfl
      rw [if_pos rfl, ← bytesize, e0]; omega
    · rw [if_neg h0, List.length_append, List.length_append, ih (by omega), hs, ← bytesize]; omega

/-- Whether and what JoinStrings answers. -/
def JoinOK (xs : List ByteArray) (sep : ByteArray) : Prop := 0 < xs.length ∧ sep.size = 1 ∧ canJ xs (sep.data.toList.headD 0)
open Classical in
noncomputable def joinB (xs : List ByteArray) (sep : ByteArray) : Bool := decide (JoinOK xs sep)
open Classical in
noncomputable def joinS (xs : List ByteArray) (sep : ByteArray) : ByteArray := if JoinOK xs sep then ⟨(Lib.join (bytesOf xs) sep.data.toList).toArray⟩ else ⟨#[]⟩
open Classical in
theorem join_yes {xs : List ByteArray} {sep : ByteArray} (h : JoinOK xs sep) : joinB xs sep = true ∧ joinS xs sep = ⟨(Lib.join (bytesOf xs) sep.data.toList).toArray⟩ := ⟨by unfold joinB; exact decide_eq_true h, by unfold joinS; rw [if_pos h]⟩
open Classical in
theorem join_no {xs : List ByteArray} {sep : ByteArray} (h : ¬ JoinOK xs sep) : joinB xs sep = false ∧ joinS xs sep = ⟨#[]⟩ := ⟨by unfold joinB; exact decide_eq_false h, by unfold joinS; rw [if_neg h]⟩

theorem head_at (sep : ByteArray) (h : 0 < sep.size) : sep.data.toList.headD 0 = sep[0] := by
  have := byteat sep 0 h
  cases hl : sep.data.toList with
  | nil => rw [hl] at this; cases this
  | cons a r => rw [hl] at this; simpa using this

set_option maxHeartbeats 800000 in
theorem implJoin_row (g cap : Nat) (xs : List ByteArray) (sep : ByteArray) (w : World) (hr : RowS w g xs) (hcap : xs.length ≤ cap) (hlen : xs.length ≤ 1048576) (hx : ∀ x ∈ xs, x.size ≤ 1048576) (hsep : sep.size ≤ maxLen) (h0 : 0 < xs.length) :
    Calls Try.prog 12 #[.slice (some ⟨g, 0, none⟩) xs.length cap, .string sep] w fun e w' => e = .returned (.tuple #[.string (joinS xs sep), .bool (joinB xs sep)]) ∧ Below w.heap.size w w' := by
  have g0 : ((xs.length : Int) == 0) = false := by rw [beq_eq_false_iff_ne]; omega
  by_cases h1 : sep.size = 1
  · have q2 : ((sep.size : Int) != 1) = false := by rw [h1]; rfl
    have hb0 : 0 < sep.size := by omega
    have q3 : (0 : Int) < (sep.size : Int) := by omega
    by_cases h2 : canJ xs (sep.data.toList.headD 0)
    · obtain ⟨e1, e2⟩ := join_yes (xs := xs) (sep := sep) ⟨h0, h1, h2⟩
      rw [e1, e2]
      have hl : (Lib.join (bytesOf xs) sep.data.toList).length ≤ 4000 := by
        have := outOf_len xs sep.data.toList (by rw [← bytesize]; exact h1) xs.length (Nat.le_refl _)
        unfold outOf at this; rw [List.take_of_length_le (Nat.le_refl _)] at this
        rw [this]; exact h2.2
      rw [head_at sep hb0] at h2
      have HJ := Lib.hid (fun W R => canJoin_yes g cap xs (sep[0].toNat : Int) sep[0] rfl W R h0 h2)
      have HK := Lib.hid (Try.strings_Join g 0 cap xs sep w (fun j x hj => by rw [Nat.zero_add]; exact hr.2 j x hj) hr.1 (by omega) hcap (by show (Lib.join (bytesOf xs) sep.data.toList).length ≤ _; omega))
      have HR := Lib.hid hr
      clear hr h2 hl e1 e2 h1
      go_enter Try.func12, Try.ntmps12
      go_wp2_with fail
      refine (HJ.out _ HR.out).mono ?_
      rintro e w1 ⟨rfl, rfl⟩
      go_wp2_with fail
      refine HK.out.mono ?_
      rintro e w2 ⟨rfl, hb⟩
      go_wp2_with fail
      go_ret2
      exact ⟨rfl, hb⟩
    · obtain ⟨e1, e2⟩ := join_no (xs := xs) (sep := sep) (fun h => h2 h.2.2)
      rw [e1, e2]
      rw [head_at sep hb0] at h2
      have HJ := Lib.hid (fun W R => canJoin_no g cap xs (sep[0].toNat : Int) sep[0] rfl W R h0 hlen hx h2)
      have HR := Lib.hid hr
      clear hr h2 e1 e2 h1 hx
      go_enter Try.func12, Try.ntmps12
      go_wp2_with fail
      refine (HJ.out _ HR.out).mono ?_
      rintro e w1 ⟨rfl, rfl⟩
      go_wp2_with fail
      go_ret2
      exact ⟨rfl, Below.refl _ _⟩
  · obtain ⟨e1, e2⟩ := join_no (xs := xs) (sep := sep) (fun h => h1 h.2.1)
    rw [e1, e2]
    have q2 : ((sep.size : Int) != 1) = true := by rw [bne_iff_ne]; omega
    clear hr e1 e2 h1 hx
    go_enter Try.func12, Try.ntmps12
    go_wp2_with fail
    go_ret2
    exact ⟨rfl, Below.refl _ _⟩

theorem implJoin_nil (a : Option Addr) (cap : Nat) (sep : ByteArray) (w : World) :
    Calls Try.prog 12 #[.slice a 0 cap, .string sep] w fun e w' => e = .returned (.tuple #[.string (joinS [] sep), .bool (joinB [] sep)]) ∧ Below w.heap.size w w' := by
  obtain ⟨e1, e2⟩ := join_no (xs := []) (sep := sep) (fun h => by have := h.1; simp at this)
  rw [e1, e2]
  clear e1 e2
  go_enter Try.func12, Try.ntmps12
  go_wp2_with fail
  go_ret2
  exact ⟨rfl, Below.refl _ _⟩

def mk (l : List UInt8) : ByteArray := ⟨l.toArray⟩
theorem mk_size (l : List UInt8) : (mk l).size = l.length := by show l.toArray.size = _; simp
theorem mk_data (s : ByteArray) : mk s.data.toList = s := by unfold mk; cases s; simp
theorem add_mk (a b : List UInt8) (h : a.length + b.length ≤ 9223372036854775807) (W : World) : (Op.stringOp .add (mk a) (mk b)).run Try.prog W = .ok (.string (mk (a ++ b))) W := by
  rw [run_string_add_sum]
  · congr 2
  · rw [mk_size, mk_size]; exact h

theorem add_str (a : List UInt8) (x : ByteArray) (h : a.length + x.size ≤ 9223372036854775807) (W : World) : (Op.stringOp .add (mk a) x).run Try.prog W = .ok (.string (mk (a ++ x.data.toList))) W := by
  have := add_mk a x.data.toList (by rw [← bytesize]; exact h) W
  rwa [mk_data] at this

theorem nosep_at {xs : List ByteArray} {b : UInt8} {k : Nat} {x : ByteArray} (hx : xs[k]? = some x) (h : stands x.data.toList b = true) : ¬ NoSep xs b := fun hn => by
  have := hn x (List.mem_of_getElem? hx); rw [h] at this; cases this
theorem nosep_take {xs : List ByteArray} {b : UInt8} {k : Nat} {x : ByteArray} (hx : xs[k]? = some x) (hp : NoSep (xs.take k) b) (h : stands x.data.toList b = false) : NoSep (xs.take (k + 1)) b := by
  have hlt : k < xs.length := by
    rcases Nat.lt_or_ge k xs.length with h1 | h1
    · exact h1
    · rw [List.getElem?_eq_none h1] at hx; cases hx
  intro y hy
  rw [List.take_succ_eq_append_getElem hlt, List.mem_append] at hy
  rcases hy with hy | hy
  · exact hp y hy
  · rw [List.getElem?_eq_getElem hlt] at hx; injection hx with hx
    rw [List.mem_singleton, hx] at hy; rw [hy]; exact h

theorem quiet_add_same {P : Program} {f : FuncId} {args : Array Value} {w : World} {a n : Nat} {v : Value}
    (h : Calls P f args (w.drewN (a + n)) fun e w' => e = .returned v ∧ w' = w.drewN (a + n)) :
    Calls P f args (w.drewN (a + n)) fun e w'' => e = .returned v ∧ ∃ m, w'' = w.drewN (a + m) :=
  h.mono fun _ _ ⟨he, hm⟩ => ⟨he, n, hm⟩

/-- What the model's loop answers: the text so far is too long or has the separator, or all is well. -/
def JPost (xs : List ByteArray) (sep : ByteArray) (w : World) (e : Ending) (w' : World) : Prop := e = .returned (.tuple #[.string (joinS xs sep), .bool (joinB xs sep)]) ∧ Below w.heap.size w w'

set_option maxHeartbeats 3200000 in
theorem specJoin_row (g cap : Nat) (xs : List ByteArray) (sep : ByteArray) (w : World) (hr : RowS w g xs) (hlen : xs.length ≤ 1048576) (hx : ∀ x ∈ xs, x.size ≤ 1048576) (hsep : sep.size ≤ maxLen) (h0 : 0 < xs.length) :
    Calls Try.prog 13 #[.slice (some ⟨g, 0, none⟩) xs.length cap, .string sep] w (JPost xs sep w) := by
  have g0 : ((xs.length : Int) == 0) = false := by rw [beq_eq_false_iff_ne]; omega
  by_cases h1 : sep.size = 1
  · have q2 : ((sep.size : Int) != 1) = false := by rw [h1]; rfl
    have hb0 : 0 < sep.size := by omega
    have q3 : (0 : Int) < (sep.size : Int) := by omega
    have HL := Lib.hid (outOf_len xs sep.data.toList (by rw [← bytesize]; exact h1))
    have HH := Lib.hid (head_at sep hb0)
    have HS1 := Lib.hid h1
    have HR := Lib.hid hr
    have HX := Lib.hid hx
    clear hr hx h1
    go_enter Try.func13, Try.ntmps13
    go_wp2_with fail
    go_loopw [6, 7] (fun o i wr => ∃ k : Nat, k ≤ xs.length ∧ i = .int .i64 k ∧ o = .string (mk (outOf xs sep.data.toList k)) ∧ (outOf xs sep.data.toList k).length ≤ 4000 ∧ Hid (NoSep (xs.take k) sep[0]) ∧ ∃ d, wr = w.drewN d) (fun _ i _ => xs.length - (intOf i).toNat)
    case atStart => exact ⟨0, Nat.zero_le _, rfl, rfl, by simp [outOf, bytesOf, Lib.join_nil], Lib.hid (fun x hx => by simp at hx), 0, rfl⟩
    case round =>
      obtain ⟨k, hk, rfl, rfl, ho, HP, d, rfl⟩ := hrel
      by_cases hlt : k < xs.length
      · obtain ⟨x, hxk⟩ : ∃ x, xs[k]? = some x := ⟨_, List.getElem?_eq_getElem hlt⟩
        have hcell := HR.out.2 k x hxk
        have hxs0 := HX.out x (List.mem_of_getElem? hxk)
        have HXK := Lib.hid hxk
        have HST := Lib.hid (fun W => (l1Stands_any x (sep[0].toNat : Int) sep[0] rfl W (by unfold maxLen; omega)).mono fun _ _ h => And.intro h.1 h.2.symm)
        have HO := Lib.hid (outOf_succ xs sep.data.toList k x hxk)
        have i0' : (0 : Int) ≤ (k : Int) := by omega
        have i1' : (k : Int) < (xs.length : Int) := by omega
        clear hxk
        cases hst : stands x.data.toList sep[0] with
        | true =>
          rw [hst] at HST
          have HJ := Lib.hid (join_no (xs := xs) (sep := sep) (fun h => by have := h.2.2.1; rw [HH.out] at this; exact nosep_at HXK.out hst this))
          clear hst
          go_wp2_with fail
          go_quiet ((go_at_call 32; exact quiet_add_same (HST.out _)))
          go_wp2_with fail
          go_ret2
          exact ⟨by rw [HJ.out.1, HJ.out.2]; rfl, ⟨rfl, rfl, rfl, Nat.le_refl _, fun _ _ => rfl⟩⟩
        | false =>
          rw [hst] at HST
          have HP2 := Lib.hid (nosep_take HXK.out HP.out hst)
          clear hst
          have hlk := HL.out (k + 1) (by omega)
          have HBIG : Hid (¬ (outOf xs sep.data.toList (k + 1)).length ≤ 4000 → joinB xs sep = false ∧ joinS xs sep = ⟨#[]⟩) := Lib.hid (fun hb => join_no (fun h => by
            have h2 := h.2.2.2
            have h3 := sizes_le xs (k + 1)
            omega))
          clear hlk
          obtain ⟨o1, ho1⟩ : ∃ o1, o1 = outOf xs sep.data.toList (k + 1) := ⟨_, rfl⟩
          have HO1 := Lib.hid ho1
          rw [← ho1] at HBIG HO
          have HMS := Lib.hid (mk_size o1)
          clear ho1
          by_cases hk0 : k = 0
          · subst hk0
            have e0 : outOf xs sep.data.toList 0 ++ x.data.toList = o1 := by
              have := HO.out; rw [if_pos rfl] at this; rw [this]; simp [outOf, bytesOf, Lib.join_nil]
            have hadd := add_str (outOf xs sep.data.toList 0) x (by omega)
            rw [e0] at hadd
            have hpos : ¬ (0 : Int) < ((0 : Nat) : Int) := by omega
            clear e0
            by_cases hb : o1.length ≤ 4000
            · have hb' : decide ((4000 : Int) < ((mk o1).size : Int)) = false := by rw [HMS.out]; simp; omega
              go_wp2_with fail
              go_quiet ((go_at_call 32; exact quiet_add_same (HST.out _)))
              go_wp2_with fail
              go_roundw
              case rel => exact ⟨0 + 1, by omega, by go_num, by rw [HO1.out], by rw [← HO1.out]; exact hb, HP2, _, rfl⟩
              case measure => simp [intOf]; omega
            · have hb' : decide ((4000 : Int) < ((mk o1).size : Int)) = true := by rw [HMS.out]; simp; omega
              go_wp2_with fail
              go_quiet ((go_at_call 32; exact quiet_add_same (HST.out _)))
              go_wp2_with fail
              go_ret2
              exact ⟨by rw [(HBIG.out hb).1, (HBIG.out hb).2]; rfl, ⟨rfl, rfl, rfl, Nat.le_refl _, fun _ _ => rfl⟩⟩
          · have e0 : outOf xs sep.data.toList k ++ sep.data.toList ++ x.data.toList = o1 := by
              have := HO.out; rw [if_neg hk0] at this; exact this.symm
            have hadd1 := add_str (outOf xs sep.data.toList k) sep (by have := HS1.out; omega)
            have hadd2 := add_str (outOf xs sep.data.toList k ++ sep.data.toList) x (by have := HS1.out; rw [List.length_append, ← bytesize]; omega)
            rw [e0] at hadd2
            have hpos : (0 : Int) < (k : Int) := by omega
            clear e0 hk0
            by_cases hb : o1.length ≤ 4000
            · have hb' : decide ((4000 : Int) < ((mk o1).size : Int)) = false := by rw [HMS.out]; simp; omega
              go_wp2_with fail
              go_quiet ((go_at_call 32; exact quiet_add_same (HST.out _)))
              go_wp2_with fail
              go_roundw
              case rel => exact ⟨k + 1, by omega, by go_num, by rw [HO1.out], by rw [← HO1.out]; exact hb, HP2, _, rfl⟩
              case measure => simp [intOf]; omega
            · have hb' : decide ((4000 : Int) < ((mk o1).size : Int)) = true := by rw [HMS.out]; simp; omega
              go_wp2_with fail
              go_quiet ((go_at_call 32; exact quiet_add_same (HST.out _)))
              go_wp2_with fail
              go_ret2
              exact ⟨by rw [(HBIG.out hb).1, (HBIG.out hb).2]; rfl, ⟨rfl, rfl, rfl, Nat.le_refl _, fun _ _ => rfl⟩⟩
      · obtain rfl : k = xs.length := by omega
        have HY : Hid (joinB xs sep = true ∧ joinS xs sep = mk (outOf xs sep.data.toList xs.length)) := Lib.hid (by
          have h2 := HL.out xs.length (Nat.le_refl _)
          rw [List.take_of_length_le (Nat.le_refl _)] at h2
          have h3 := HP.out
          rw [List.take_of_length_le (Nat.le_refl _)] at h3
          have hok : JoinOK xs sep := ⟨h0, HS1.out, by rw [HH.out]; exact ⟨h3, by omega⟩⟩
          obtain ⟨y1, y2⟩ := join_yes hok
          refine ⟨y1, y2.trans ?_⟩
          unfold mk outOf; rw [List.take_of_length_le (Nat.le_refl _)])
        go_wp2_with fail
        go_ret2
        exact ⟨by rw [HY.out.1, HY.out.2]; rfl, ⟨rfl, rfl, rfl, Nat.le_refl _, fun _ _ => rfl⟩⟩
  · obtain ⟨e1, e2⟩ := join_no (xs := xs) (sep := sep) (fun h => h1 h.2.1)
    unfold JPost
    rw [e1, e2]
    have q2 : ((sep.size : Int) != 1) = true := by rw [bne_iff_ne]; omega
    clear hr e1 e2 h1 hx
    go_enter Try.func13, Try.ntmps13
    go_wp2_with fail
    go_ret2
    exact ⟨rfl, Below.refl _ _⟩

theorem specJoin_nil (a : Option Addr) (cap : Nat) (sep : ByteArray) (w : World) :
    Calls Try.prog 13 #[.slice a 0 cap, .string sep] w (JPost [] sep w) := by
  obtain ⟨e1, e2⟩ := join_no (xs := []) (sep := sep) (fun h => by have := h.1; simp at this)
  unfold JPost
  rw [e1, e2]
  clear e1 e2
  by_cases h1 : (sep.size : Int) = 1
  · have q2 : ((sep.size : Int) != 1) = false := by rw [h1]; rfl
    clear h1
    go_enter Try.func13, Try.ntmps13
    go_wp2_with fail
    go_ret2
    exact ⟨rfl, Below.refl _ _⟩
  · have q2 : ((sep.size : Int) != 1) = true := by rw [bne_iff_ne]; exact h1
    clear h1
    go_enter Try.func13, Try.ntmps13
    go_wp2_with fail
    go_ret2
    exact ⟨rfl, Below.refl _ _⟩

/-- Both, over a row of the call's own. -/
theorem row_of_owns {w : World} {b g n cap : Nat} {xs : List ByteArray} (h : w.ownsRow b 9 1 (.slice (some ⟨g, 0, none⟩) n cap) n (xs.map Value.string)) : RowS w g xs :=
  ⟨(row_block h).2, fun j x hj => row_cell h j _ (by rw [List.getElem?_map, hj]; rfl)⟩
theorem row_cap {w : World} {b g n cap : Nat} {xs : List Value} (h : w.ownsRow b 9 1 (.slice (some ⟨g, 0, none⟩) n cap) n xs) : n ≤ cap := by
  rcases h.2 with ⟨h, _⟩ | ⟨g', cap', cur, hv, _, _, hc, _⟩
  · cases h
  · simp only [Value.slice.injEq, Option.some.injEq, Addr.mk.injEq, and_true, true_and] at hv
    rw [hv.2]; exact hc

theorem specJoin_own (b : Nat) (v : Value) (xs : List ByteArray) (sep : ByteArray) (w : World) (h : w.ownsRow b 9 1 v xs.length (xs.map Value.string)) (hlen : xs.length ≤ 1048576) (hx : ∀ x ∈ xs, x.size ≤ 1048576) (hsep : sep.size ≤ maxLen) :
    Calls Try.prog 13 #[v, .string sep] w (JPost xs sep w) := by
  cases xs with
  | nil =>
    obtain ⟨a, c, rfl⟩ := row_none h
    exact specJoin_nil a c sep w
  | cons x r =>
    obtain ⟨g, c, rfl⟩ := row_succ h
    exact specJoin_row g c (x :: r) sep w (row_of_owns h) hlen hx hsep (by simp)

theorem implJoin_own (b : Nat) (v : Value) (xs : List ByteArray) (sep : ByteArray) (w : World) (h : w.ownsRow b 9 1 v xs.length (xs.map Value.string)) (hlen : xs.length ≤ 1048576) (hx : ∀ x ∈ xs, x.size ≤ 1048576) (hsep : sep.size ≤ maxLen) :
    Calls Try.prog 12 #[v, .string sep] w (JPost xs sep w) := by
  cases xs with
  | nil =>
    obtain ⟨a, c, rfl⟩ := row_none h
    exact implJoin_nil a c sep w
  | cons x r =>
    obtain ⟨g, c, rfl⟩ := row_succ h
    exact implJoin_row g c (x :: r) sep w (row_of_owns h) (row_cap h) hlen hx hsep (by simp)
end Go.Proofs.Ytbjahiebajgfeaa.base
