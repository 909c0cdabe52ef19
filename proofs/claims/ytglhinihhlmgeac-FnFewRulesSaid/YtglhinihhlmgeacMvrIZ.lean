/-
  What a rule does, as a value behind the interface, walked.
-/
/-
  How one pours by a rule: the value that holds the depths and the rule's method, walked.
-/
import Derived.Test.YtglhinihhlmgeacMovI
import Derived.Test.YtglhinihhlmgeacDepIZ
import Derived.Test.YtglhinihhlmgeacBlkW

section
namespace Go.Proofs.Ytglhinihhlmgeac.base
open Go.ChangeShapes Go.WideShapes Go.ChangeAt Go.RowKit
set_option linter.unusedVariables false
set_option linter.unusedSimpArgs false

/-- The rule's own value, behind the interface. -/
def mvrV (x : Int) : Value :=
  if x = 1 then .iface 101 (.agg #[]) else if x = 2 then .iface 102 (.agg #[])
  else if x = 3 then .iface 103 (.agg #[]) else if x = 4 then .iface 104 (.agg #[]) else .nilIface
theorem rule_cases {x : Int} (h : ruleV x = true) : x = 1 ∨ x = 2 ∨ x = 3 ∨ x = 4 := by
  have := of_decide_eq_true h
  omega
set_option maxHeartbeats 800000 in
theorem moverOf_any (x : Int) (w : World) :
    Calls Try.prog 50 #[.int .i64 x] w fun e w' => e = .returned (.tuple #[mvrV x, .bool (ruleV x)]) ∧ Kept w w' := by
  have HB := Lib.hid (kept_refl w)
  by_cases hr : ruleV x = true
  · rcases rule_cases hr with rfl | rfl | rfl | rfl
    all_goals
      go_enter Try.func50, Try.ntmps50
      go_wp2_with fail
      go_ret2
      exact ⟨rfl, HB.out.alloc _⟩
  · have hf : ruleV x = false := by simpa using hr
    have E := Lib.hid (show mvrV x = .nilIface by
      have : ¬ (1 ≤ x ∧ x ≤ 4) := fun h => hr (decide_eq_true h)
      unfold mvrV
      rw [if_neg (by omega), if_neg (by omega), if_neg (by omega), if_neg (by omega)])
    have V := Lib.hid hf
    have : ¬ (1 ≤ x ∧ x ≤ 4) := fun h => hr (decide_eq_true h)
    clear hf hr
    go_enter Try.func50, Try.ntmps50
    by_cases h1 : x < 1
    · have q1 : decide (x < 1) = true := decide_eq_true h1
      clear h1 this
      go_wp2_with fail
      go_ret2
      exact ⟨by rw [E.out, V.out]; rfl, HB.out⟩
    · have q1 : decide (x < 1) = false := decide_eq_false h1
      have q2 : decide (x > 4) = true := decide_eq_true (by omega)
      have q3 : decide (4 < x) = true := decide_eq_true (by omega)
      clear h1 this
      go_wp2_with fail
      go_ret2
      exact ⟨by rw [E.out, V.out]; rfl, HB.out⟩
end Go.Proofs.Ytglhinihhlmgeac.base
end

section
namespace Go.Proofs.Ytglhinihhlmgeac.base
open Go.ChangeShapes Go.WideShapes Go.ChangeAt Go.RowKit
set_option linter.unusedVariables false
set_option linter.unusedSimpArgs false

theorem exec_build2 {P : Program} {ev : Operand → Value} {op : Oper} {w : World} {T : TypeId} {x y : Operand} {u v r : Value} (ho : op.op = .build T #[(0, x), (1, y)]) (hx : ev x = u) (hy : ev y = v) (hq : (Instr.build T #[(0, u), (1, v)]).run P w = .ok r w) : Sem.run P (execOp ev op) w = .ok (.value r) w := by
  unfold execOp
  simp only [ho, hx, hy, Sem.run_bind, List.map_toArray, List.map_cons, List.map_nil, hq, Result.andThen_ok, Sem.run_pure]
def pgF (x : Int) : Value := .func (.method "Moves") #[mvrV x] #[]
def pgA (ds : List Int) (x : Int) : List Value := ints ds ++ [pgF x]
def pgZ : List Value := ints [0, 0, 0, 0, 0, 0] ++ [Value.nilFunc]
def pgR (ns ds : List Int) (x : Int) : List Value := if byOk ns ds x = true then pgA ds x else pgZ
theorem list6 {ds : List Int} (h : ds.length = 6) : ∃ a b c d e f, ds = [a, b, c, d, e, f] := by
  match ds, h with
  | [a, b, c, d, e, f], _ => exact ⟨a, b, c, d, e, f, rfl⟩
theorem buildPg (ds : List Int) (m : Value) (h : ds.length = 6) (w : World) : (Instr.build 58 #[(0, .agg (ints ds).toArray), (1, .func (.method "Moves") #[m] #[])]).run Try.prog w = .ok (.agg (ints ds ++ [Value.func (.method "Moves") #[m] #[]]).toArray) w := by
  obtain ⟨a, b, c, d, e, f, rfl⟩ := list6 h
  exact run_build w _ _ _ (by kernel_rfl)
theorem buildPgZ (w : World) : (Instr.build 58 #[]).run Try.prog w = .ok (.agg pgZ.toArray) w := by kernel_rfl
theorem pgA_len (ds : List Int) (x : Int) (h : ds.length = 6) : (pgA ds x).length = 7 := by unfold pgA; rw [List.length_append, ints_len, h]; rfl
theorem pgR_len (ns ds : List Int) (x : Int) (h : ds.length = 6) : (pgR ns ds x).length = 7 := by
  unfold pgR; split
  · exact pgA_len ds x h
  · rfl
theorem pg_one (ds : List Int) (f : Value) (h : f.oneCell' = true) : ∀ v ∈ ints ds ++ [f], v.oneCell' = true := fun v hv => by
  rcases List.mem_append.1 hv with h1 | h1
  · exact ints_one ds v h1
  · obtain rfl := List.mem_singleton.1 h1
    exact h

set_option maxHeartbeats 1600000 in
set_option maxRecDepth 100000 in
theorem pouringBy_any (ns ds : List Int) (x : Int) (w : World) (h24 : ns.length = 24) (h6 : ds.length = 6) :
    Calls Try.prog 24 #[row ns, row ds, .int .i64 x] w fun e w' => e = .returned (.tuple #[.agg (pgR ns ds x).toArray, .bool (byOk ns ds x)]) ∧ Kept w w' := by
  have HB := Lib.hid ((((kept_refl w).alloc (.cells (ints ns).toArray 27)).alloc (.cells (ints ds).toArray 28)).alloc (.cells pgZ.toArray 58))
  have H := ((Has.box w 27 h24 (by omega)).alloc (.cells (ints ds).toArray 28)).alloc (.cells pgZ.toArray 58)
  have D := ((Has.box (w.alloc (.cells (ints ns).toArray 27)) 28 h6 (by omega)).at (size1 _ _)).alloc (.cells pgZ.toArray 58)
  have G := (Bk.box ((w.alloc (.cells (ints ns).toArray 27)).alloc (.cells (ints ds).toArray 28)) pgZ 58).at (q := w.heap.size + 1 + 1) (by simp)
  have hd6 : (ints ds).length = 6 := by rw [ints_len]; exact h6
  have hiD : (Try.prog.info? 28).map (·.size) = some (ints ds).length := by rw [hd6]; kernel_rfl
  have EG : (.cells #[.int .i64 0, .int .i64 0, .int .i64 0, .int .i64 0, .int .i64 0, .int .i64 0, .nilFunc] 58 : Obj) = .cells pgZ.toArray 58 := rfl
  rw [row_ints, row_ints]
  go_enter Try.func24, Try.ntmps24
  go_wp2_with fail
  clear EG
  generalize (((w.alloc (.cells (ints ns).toArray 27)).alloc (.cells (ints ds).toArray 28)).alloc (.cells pgZ.toArray 58)) = W at *
  refine (moverOf_any x _).mono ?_
  rintro e w1 ⟨rfl, b1⟩
  have H1 := H.below b1
  have D1 := D.below b1
  have G1 := G.below b1
  have HB1 := Lib.hid (HB.out.call b1)
  clear H D G HB b1
  go_wp2_with (first | (refine load_has rfl 27 _ rfl _ rfl ?_ 24 ?_ _ Try.underlying27 rfl ?_ ?_; rotate_left; (· (repeat (first | (with_reducible assumption) | ((with_reducible refine Has.box _ _ ?_ ?_) <;> (first | assumption | decide)) | (with_reducible refine Has.alloc ?_ _) | ((with_reducible refine Has.putOther ?_ _ _ ?_); rotate_left; omega; skip) | ((with_reducible refine Has.below ?_ ?_); rotate_left; assumption)))); (· kernel_rfl)) | (refine load_has rfl 28 _ rfl _ rfl ?_ 6 ?_ _ Try.underlying28 rfl ?_ ?_; rotate_left; (· (repeat (first | (with_reducible assumption) | ((with_reducible refine Has.box _ _ ?_ ?_) <;> (first | assumption | decide)) | (with_reducible refine Has.alloc ?_ _) | ((with_reducible refine Has.putOther ?_ _ _ ?_); rotate_left; omega; skip) | ((with_reducible refine Has.below ?_ ?_); rotate_left; assumption)))); (· kernel_rfl)))
  refine (implFitsD ns ds _ h24 h6).mono ?_
  rintro e w2 ⟨rfl, b2⟩
  have D2 := D1.below b2
  have G2 := G1.below b2
  have HB2 := Lib.hid (HB1.out.call b2)
  clear H1 D1 G1 HB1 b2
  by_cases hr : ruleV x = true
  · by_cases hf : fitA ns ds = true
    · have O := Lib.hid (show byOk ns ds x = true by unfold byOk; rw [hr, hf]; rfl)
      have E := Lib.hid (show pgR ns ds x = pgA ds x by unfold pgR; rw [if_pos O.out])
      have BP := Lib.hid (fun W => buildPg ds (mvrV x) h6 W)
      have hm : ∃ T u, mvrV x = .iface T u := by
        rcases rule_cases hr with rfl | rfl | rfl | rfl
        · exact ⟨_, _, rfl⟩
        · exact ⟨_, _, rfl⟩
        · exact ⟨_, _, rfl⟩
        · exact ⟨_, _, rfl⟩
      obtain ⟨T, u, hm⟩ := hm
      rw [hr, hf]
      clear hr hf
      rw [hm] at BP ⊢
      go_wp2_with fail
      refine wp_region_held_drew (S := fun w' => Has w' (w.heap.size + 1) ds 6) (by kernel_rfl) D2.drew (fun hHeld => ?_)
      (refine wpAnyH_take (i := 1) (v := ?_) rfl (by kernel_rfl) (by kernel_rfl) (by kernel_rfl) (fun _ _ _ h => h) (Or.inl ⟨by rfl, ?_⟩) hHeld ?_; rotate_left; (· (intro w' hSw; go_simp; try with_reducible rfl)); (try simp only [List.getElem_toArray, List.getElem_cons_zero, List.getElem_cons_succ, Act.put, List.setIfInBounds_toArray, List.set_cons_zero, List.set_cons_succ])); (refine wpAnyH_take (i := 2) (v := ?_) rfl (by kernel_rfl) (by kernel_rfl) (by kernel_rfl) (fun _ _ _ h => h) (Or.inl ⟨by rfl, ?_⟩) hHeld ?_; rotate_left; (· (intro w' hSw; go_simp; try with_reducible rfl)); (try simp only [List.getElem_toArray, List.getElem_cons_zero, List.getElem_cons_succ, Act.put, List.setIfInBounds_toArray, List.set_cons_zero, List.set_cons_succ]))
      (refine wpAnyH_take (i := 0) (v := _) rfl (by kernel_rfl) (by kernel_rfl) (by kernel_rfl) (fun _ _ _ h => h) (yieldsIf_load_mid (by rfl) 28 _ rfl _ _ rfl (ints ds) _ (fun w' hSw => hSw.holds.range) Try.underlying28 rfl (hiD)) hHeld ?_; (try simp only [List.getElem_toArray, List.getElem_cons_zero, List.getElem_cons_succ, Act.put, List.setIfInBounds_toArray, List.set_cons_zero, List.set_cons_succ]))
      (refine wpAnyH_ready (rs := [3]) (by kernel_rfl) (by simp) ?_; refine AllReadyH.cons (o := _) rfl (fun K hK => ?_) AllReadyH.nil; (simp only [List.getElem_toArray, List.getElem_cons_zero, List.getElem_cons_succ, Region.wanted, if_true]))
      go_simp
      (try simp only [List.getElem_toArray, List.getElem_cons_zero, List.getElem_cons_succ, Act.put, List.setIfInBounds_toArray, List.set_cons_zero, List.set_cons_succ])
      refine hK.out _ _ hHeld (fun hHeld => ?_)
      clear hK K
      have EP : ints ds ++ [Value.func (.method "Moves") #[.iface T u] #[]] = pgA ds x := by unfold pgA pgF; rw [hm]
      rw [EP] at BP
      refine wpAnyH_take (i := 4) (v := .agg (pgA ds x).toArray) rfl (by kernel_rfl) (by kernel_rfl) (by kernel_rfl) (fun _ _ _ h => h) (Or.inl ⟨by rfl, ?_⟩) hHeld ?_
      · intro w' hSw
        exact exec_build2 rfl rfl rfl (BP.out _)
      (try simp only [List.getElem_toArray, List.getElem_cons_zero, List.getElem_cons_succ, Act.put, List.setIfInBounds_toArray, List.set_cons_zero, List.set_cons_succ])
      have lp := pgA_len ds x h6
      have lq : (pgA ds x).toArray.size = 7 := List.size_toArray.trans lp
      have op1 : ∀ v ∈ pgA ds x, v.oneCell' = true := pg_one ds _ rfl
      have tg : w2.drew.there (w.heap.size + 1 + 1) 0 (pgA ds x).toArray.size := by rw [lq]; exact G2.drew.there
      have ti : (Try.prog.info? 58).map (·.size) = some (pgA ds x).toArray.size := by rw [lq]; kernel_rfl
      have G3 := G2.drew.putAll (pgA ds x) (by rw [lp]; rfl)
      have K3 := HB2.out.drewN 1
      have K4 := K3.puts (b := w.heap.size + 1 + 1) (by omega) 0 (pgA ds x)
      (refine wpAnyH_ready (rs := [5]) (by kernel_rfl) (by simp) ?_; refine AllReadyH.cons (o := _) rfl (fun K hK => ?_) AllReadyH.nil; (simp only [List.getElem_toArray, List.getElem_cons_zero, List.getElem_cons_succ, Region.wanted, if_true]); refine wp_store_mid _ _ _ rfl _ _ (pgA ds x).toArray rfl rfl (tg) (ti) (all_oneCell_toArray (op1)) ?_; (try simp only [List.getElem_toArray, List.getElem_cons_zero, List.getElem_cons_succ, Act.put, List.setIfInBounds_toArray, List.set_cons_zero, List.set_cons_succ, List.toList_toArray]); refine hK.out _ _ (hHeld.putOther _ _ (by omega)) (fun hHeld => ?_); clear hK K)
      (refine wpAnyH_take (i := 6) (v := ?_) rfl (by kernel_rfl) (by kernel_rfl) (by kernel_rfl) (fun _ _ _ h => h) (Or.inl ⟨by rfl, ?_⟩) hHeld ?_; rotate_left; (· (intro w' hSw; go_simp; try with_reducible rfl)); (try simp only [List.getElem_toArray, List.getElem_cons_zero, List.getElem_cons_succ, Act.put, List.setIfInBounds_toArray, List.set_cons_zero, List.set_cons_succ]))
      refine wpAnyH_done (by kernel_rfl) ?_ _
      clear hHeld tg
      go_wp2_with fail
      exact bodyPost_ret (res_bk1 rfl _ _ (w.heap.size + 1 + 1) (pgA ds x) _ _ (.bool true) rfl rfl G3 Try.underlying58 rfl (by rw [lp]; kernel_rfl)) rfl ⟨by rw [E.out, O.out], K4⟩
    · have hff : fitA ns ds = false := by simpa using hf
      have O := Lib.hid (show byOk ns ds x = false by unfold byOk; rw [hff]; rfl)
      have E := Lib.hid (show pgR ns ds x = pgZ by unfold pgR; rw [O.out]; rfl)
      rw [hr, hff]
      clear hr hf hff
      have G3 := Lib.hid (G2.putAll pgZ rfl)
      have K3 := Lib.hid (HB2.out.puts (b := w.heap.size + 1 + 1) (by omega) 0 pgZ)
      go_wp2_with (first | (refine build_law rfl 58 rfl _ buildPgZ ?_) | (refine store_bk rfl 58 _ _ rfl _ rfl pgZ rfl pgZ _ G2 rfl (pg_one _ _ rfl) (by kernel_rfl) ?_))
      exact bodyPost_ret (res_bk1 rfl _ _ (w.heap.size + 1 + 1) pgZ _ _ (.bool false) rfl rfl G3.out Try.underlying58 rfl (by kernel_rfl)) rfl ⟨by rw [E.out, O.out], K3.out⟩
  · have hrf : ruleV x = false := by simpa using hr
    have O := Lib.hid (show byOk ns ds x = false by unfold byOk; rw [hrf, Bool.and_false])
    have E := Lib.hid (show pgR ns ds x = pgZ by unfold pgR; rw [O.out]; rfl)
    rw [hrf]
    clear hr hrf
    have G3 := Lib.hid (G2.putAll pgZ rfl)
    have K3 := Lib.hid (HB2.out.puts (b := w.heap.size + 1 + 1) (by omega) 0 pgZ)
    generalize fitA ns ds = FA at *
    go_wp2_with (first | (refine build_law rfl 58 rfl _ buildPgZ ?_) | (refine store_bk rfl 58 _ _ rfl _ rfl pgZ rfl pgZ _ G2 rfl (pg_one _ _ rfl) (by kernel_rfl) ?_))
    exact bodyPost_ret (res_bk1 rfl _ _ (w.heap.size + 1 + 1) pgZ _ _ (.bool false) rfl rfl G3.out Try.underlying58 rfl (by kernel_rfl)) rfl ⟨by rw [E.out, O.out], K3.out⟩
end Go.Proofs.Ytglhinihhlmgeac.base
end
