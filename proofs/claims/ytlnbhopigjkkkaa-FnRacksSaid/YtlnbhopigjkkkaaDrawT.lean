/-
  A text is spoilt, and a text of a rack is drawn, walked.
-/
import Derived.Test.YtlnbhopigjkkkaaDrawL
import Derived.Test.YtlnbhopigjkkkaaReadR
namespace Go.Proofs.Ytlnbhopigjkkkaa.base
open Go.ChangeShapes Go.WideShapes Go.ChangeAt Go.RowKit
open Go.Proofs.Ytlnbhopigjkkkaa.cur
set_option linter.unusedVariables false
set_option linter.unusedSimpArgs false

theorem extract_le (t : ByteArray) (i j : Nat) : (t.extract i j).size ≤ t.size := by rw [ByteArray.size_extract]; omega

set_option maxHeartbeats 1600000 in
set_option maxRecDepth 100000 in
theorem spoilt_any (c k : Nat) (t u : ByteArray) (w : World) (h : Cur w c k) (hk : k < 900000) (ht : t.size ≤ 1000) (ht0 : 0 < t.size) (hu : u.size = 7) :
    Calls Try.prog 61 #[.pointer (some ⟨c, 0, none⟩), .string t, .string u] w fun e w' => ∃ s : ByteArray, e = .returned (.string s) ∧ s.size ≤ 3000 ∧ Cur w' c (k + 100) ∧ Moved c w w' := by
  have HC := Lib.hid h
  have hne : (t.toList == ([] : List UInt8)) = false := by
    rw [beq_eq_false_iff_ne, _root_.Go.ByteArray.toList_eq]
    intro e
    have h0 : t.data.toList.length = 0 := by rw [e]; rfl
    rw [← bytesize] at h0; omega
  have hu0 : 0 < u.size := by omega
  have hui : (u.size : Int) = 7 := by omega
  have hti : (0 : Int) < (t.size : Int) := by omega
  clear h
  go_enter Try.func61, Try.ntmps61
  go_wp2_with fail
  refine (pick_any c _ (t.size : Int) _ HC.out (by omega) (by omega) (by omega)).mono ?_
  rintro e w1 ⟨z, rfl, z0, z1, c1, m1⟩
  obtain ⟨I, rfl⟩ : ∃ I : Nat, z = (I : Int) := ⟨z.toNat, by omega⟩
  have hI : I < t.size := by omega
  have C1 := Lib.hid c1
  have M1 := Lib.hid m1
  clear c1 m1 HC
  go_wp2_with fail
  refine (pick_any c _ 7 _ C1.out (by omega) (by omega) (by omega)).mono ?_
  rintro e w2 ⟨z, rfl, y0, y1, c2, m2⟩
  obtain ⟨J, rfl⟩ : ∃ J : Nat, z = (J : Int) := ⟨z.toNat, by omega⟩
  have hJ : J < u.size := by omega
  have C2 := Lib.hid c2
  have M2 := Lib.hid (M1.out.trans m2)
  have hJ7 : (J : Int) ≤ (u.size : Int) := by omega
  have hex : (1 : Int) ≤ ((u.extract J u.size).size : Int) := by rw [ByteArray.size_extract]; omega
  have hexn : 1 ≤ (u.extract J u.size).size := by rw [ByteArray.size_extract]; omega
  clear c2 m2 C1 M1 hui
  go_wp2_with fail
  have hw0 : ((u.extract J 7).extract 0 1).size ≤ 7 := by
    have := extract_le (u.extract J 7) 0 1
    have := extract_le u J 7
    omega
  refine (pick_any c _ 3 _ C2.out (by omega) (by omega) (by omega)).mono ?_
  rintro e w3 ⟨sw, rfl, s0, s1, c3, m3⟩
  have C3 := Lib.hid (c3.mono (m := k + 100) (by omega))
  have M3 := Lib.hid (M2.out.trans m3)
  clear c3 m3 C2 M2 hex hexn
  have hI1 : (I : Int) ≤ (t.size : Int) := by omega
  have hI2 : (I : Int) + 1 ≤ (t.size : Int) := by omega
  have hI0 : (0 : Int) ≤ (I : Int) := by omega
  have hI3 : (0 : Int) ≤ (I : Int) + 1 := by omega
  have wI : IntKind.i64.wrap ((I : Int) + 1) = (I : Int) + 1 := IntWalk.i64_in _ (by omega)
  have tI : ((I : Int) + 1).toNat = I + 1 := by omega
  have a1 := extract_le t 0 I
  have a2 := extract_le t I t.size
  have a3 := extract_le t (I + 1) t.size
  by_cases q0 : sw = 0
  · subst q0
    go_wp2_with fail
    refine wp_region_held_drew (S := fun w' => True) (by kernel_rfl) trivial (fun hHeld => ?_)
    (refine wpAnyH_take (i := 0) (v := ?_) rfl (by kernel_rfl) (by kernel_rfl) (by kernel_rfl) (fun _ _ _ h => h) (Or.inl ⟨by rfl, ?_⟩) hHeld ?_; rotate_left; (· (intro w' hSw; go_simp; try with_reducible rfl)); (try simp only [List.getElem_toArray, List.getElem_cons_zero, List.getElem_cons_succ, Act.put, List.setIfInBounds_toArray, List.set_cons_zero, List.set_cons_succ])); (refine wpAnyH_take (i := 1) (v := ?_) rfl (by kernel_rfl) (by kernel_rfl) (by kernel_rfl) (fun _ _ _ h => h) (Or.inl ⟨by rfl, ?_⟩) hHeld ?_; rotate_left; (· (intro w' hSw; go_simp; try with_reducible rfl)); (try simp only [List.getElem_toArray, List.getElem_cons_zero, List.getElem_cons_succ, Act.put, List.setIfInBounds_toArray, List.set_cons_zero, List.set_cons_succ])); (refine wpAnyH_take (i := 3) (v := ?_) rfl (by kernel_rfl) (by kernel_rfl) (by kernel_rfl) (fun _ _ _ h => h) (Or.inl ⟨by rfl, ?_⟩) hHeld ?_; rotate_left; (· (intro w' hSw; go_simp; try with_reducible rfl)); (try simp only [List.getElem_toArray, List.getElem_cons_zero, List.getElem_cons_succ, Act.put, List.setIfInBounds_toArray, List.set_cons_zero, List.set_cons_succ])); (refine wpAnyH_take (i := 5) (v := ?_) rfl (by kernel_rfl) (by kernel_rfl) (by kernel_rfl) (fun _ _ _ h => h) (Or.inl ⟨by rfl, ?_⟩) hHeld ?_; rotate_left; (· (intro w' hSw; go_simp; try with_reducible rfl)); (try simp only [List.getElem_toArray, List.getElem_cons_zero, List.getElem_cons_succ, Act.put, List.setIfInBounds_toArray, List.set_cons_zero, List.set_cons_succ])); (refine wpAnyH_take (i := 6) (v := ?_) rfl (by kernel_rfl) (by kernel_rfl) (by kernel_rfl) (fun _ _ _ h => h) (Or.inl ⟨by rfl, ?_⟩) hHeld ?_; rotate_left; (· (intro w' hSw; go_simp; try with_reducible rfl)); (try simp only [List.getElem_toArray, List.getElem_cons_zero, List.getElem_cons_succ, Act.put, List.setIfInBounds_toArray, List.set_cons_zero, List.set_cons_succ])); (refine wpAnyH_take (i := 2) (v := ?_) rfl (by kernel_rfl) (by kernel_rfl) (by kernel_rfl) (fun _ _ _ h => h) (Or.inl ⟨by rfl, ?_⟩) hHeld ?_; rotate_left; (· (intro w' hSw; go_simp; try with_reducible rfl)); (try simp only [List.getElem_toArray, List.getElem_cons_zero, List.getElem_cons_succ, Act.put, List.setIfInBounds_toArray, List.set_cons_zero, List.set_cons_succ])); (refine wpAnyH_take (i := 7) (v := ?_) rfl (by kernel_rfl) (by kernel_rfl) (by kernel_rfl) (fun _ _ _ h => h) (Or.inl ⟨by rfl, ?_⟩) hHeld ?_; rotate_left; (· (intro w' hSw; go_simp; try with_reducible rfl)); (try simp only [List.getElem_toArray, List.getElem_cons_zero, List.getElem_cons_succ, Act.put, List.setIfInBounds_toArray, List.set_cons_zero, List.set_cons_succ]))
    generalize t.extract 0 I = A0 at *
    generalize (u.extract J 7).extract 0 1 = x at *
    generalize t.extract I t.size = A1 at *
    have n1 : ¬ 9223372036854775807 < A0.size + x.size := by omega
    have n2 : ¬ 9223372036854775807 < A0.size + x.size + A1.size := by omega
    (refine wpAnyH_take (i := 4) (v := ?_) rfl (by kernel_rfl) (by kernel_rfl) (by kernel_rfl) (fun _ _ _ h => h) (Or.inl ⟨by rfl, ?_⟩) hHeld ?_; rotate_left; (· (intro w' hSw; go_simp; try with_reducible rfl)); (try simp only [List.getElem_toArray, List.getElem_cons_zero, List.getElem_cons_succ, Act.put, List.setIfInBounds_toArray, List.set_cons_zero, List.set_cons_succ])); (refine wpAnyH_take (i := 8) (v := ?_) rfl (by kernel_rfl) (by kernel_rfl) (by kernel_rfl) (fun _ _ _ h => h) (Or.inl ⟨by rfl, ?_⟩) hHeld ?_; rotate_left; (· (intro w' hSw; go_simp; try with_reducible rfl)); (try simp only [List.getElem_toArray, List.getElem_cons_zero, List.getElem_cons_succ, Act.put, List.setIfInBounds_toArray, List.set_cons_zero, List.set_cons_succ])); (refine wpAnyH_take (i := 9) (v := ?_) rfl (by kernel_rfl) (by kernel_rfl) (by kernel_rfl) (fun _ _ _ h => h) (Or.inl ⟨by rfl, ?_⟩) hHeld ?_; rotate_left; (· (intro w' hSw; go_simp; try with_reducible rfl)); (try simp only [List.getElem_toArray, List.getElem_cons_zero, List.getElem_cons_succ, Act.put, List.setIfInBounds_toArray, List.set_cons_zero, List.set_cons_succ]))
    refine wpAnyH_done (by kernel_rfl) ?_ _
    have D3 := Lib.hid (Cur.drewN C3.out 1)
    have N3 := Lib.hid (Moved.drewN M3.out 1)
    have SZ : Hid ((A0 ++ x ++ A1).size ≤ 3000) := Lib.hid (by rw [ByteArray.size_append, ByteArray.size_append]; omega)
    clear hHeld
    go_wp2_with fail
    go_ret
    exact ⟨_, rfl, SZ.out, D3.out, N3.out⟩
  · have q0' : (sw == 0) = false := by simpa using q0
    by_cases q1 : sw = 1
    · subst q1
      go_wp2_with fail
      refine wp_region_held_drew (S := fun w' => True) (by kernel_rfl) trivial (fun hHeld => ?_)
      (refine wpAnyH_take (i := 0) (v := ?_) rfl (by kernel_rfl) (by kernel_rfl) (by kernel_rfl) (fun _ _ _ h => h) (Or.inl ⟨by rfl, ?_⟩) hHeld ?_; rotate_left; (· (intro w' hSw; go_simp; try with_reducible rfl)); (try simp only [List.getElem_toArray, List.getElem_cons_zero, List.getElem_cons_succ, Act.put, List.setIfInBounds_toArray, List.set_cons_zero, List.set_cons_succ])); (refine wpAnyH_take (i := 1) (v := ?_) rfl (by kernel_rfl) (by kernel_rfl) (by kernel_rfl) (fun _ _ _ h => h) (Or.inl ⟨by rfl, ?_⟩) hHeld ?_; rotate_left; (· (intro w' hSw; go_simp; try with_reducible rfl)); (try simp only [List.getElem_toArray, List.getElem_cons_zero, List.getElem_cons_succ, Act.put, List.setIfInBounds_toArray, List.set_cons_zero, List.set_cons_succ])); (refine wpAnyH_take (i := 3) (v := ?_) rfl (by kernel_rfl) (by kernel_rfl) (by kernel_rfl) (fun _ _ _ h => h) (Or.inl ⟨by rfl, ?_⟩) hHeld ?_; rotate_left; (· (intro w' hSw; go_simp; try with_reducible rfl)); (try simp only [List.getElem_toArray, List.getElem_cons_zero, List.getElem_cons_succ, Act.put, List.setIfInBounds_toArray, List.set_cons_zero, List.set_cons_succ])); (refine wpAnyH_take (i := 5) (v := ?_) rfl (by kernel_rfl) (by kernel_rfl) (by kernel_rfl) (fun _ _ _ h => h) (Or.inl ⟨by rfl, ?_⟩) hHeld ?_; rotate_left; (· (intro w' hSw; go_simp; try with_reducible rfl)); (try simp only [List.getElem_toArray, List.getElem_cons_zero, List.getElem_cons_succ, Act.put, List.setIfInBounds_toArray, List.set_cons_zero, List.set_cons_succ])); (refine wpAnyH_take (i := 6) (v := ?_) rfl (by kernel_rfl) (by kernel_rfl) (by kernel_rfl) (fun _ _ _ h => h) (Or.inl ⟨by rfl, ?_⟩) hHeld ?_; rotate_left; (· (intro w' hSw; go_simp; try with_reducible rfl)); (try simp only [List.getElem_toArray, List.getElem_cons_zero, List.getElem_cons_succ, Act.put, List.setIfInBounds_toArray, List.set_cons_zero, List.set_cons_succ])); (refine wpAnyH_take (i := 7) (v := ?_) rfl (by kernel_rfl) (by kernel_rfl) (by kernel_rfl) (fun _ _ _ h => h) (Or.inl ⟨by rfl, ?_⟩) hHeld ?_; rotate_left; (· (intro w' hSw; go_simp; try with_reducible rfl)); (try simp only [List.getElem_toArray, List.getElem_cons_zero, List.getElem_cons_succ, Act.put, List.setIfInBounds_toArray, List.set_cons_zero, List.set_cons_succ])); (refine wpAnyH_take (i := 2) (v := ?_) rfl (by kernel_rfl) (by kernel_rfl) (by kernel_rfl) (fun _ _ _ h => h) (Or.inl ⟨by rfl, ?_⟩) hHeld ?_; rotate_left; (· (intro w' hSw; go_simp; try with_reducible rfl)); (try simp only [List.getElem_toArray, List.getElem_cons_zero, List.getElem_cons_succ, Act.put, List.setIfInBounds_toArray, List.set_cons_zero, List.set_cons_succ])); (refine wpAnyH_take (i := 8) (v := ?_) rfl (by kernel_rfl) (by kernel_rfl) (by kernel_rfl) (fun _ _ _ h => h) (Or.inl ⟨by rfl, ?_⟩) hHeld ?_; rotate_left; (· (intro w' hSw; go_simp; try with_reducible rfl)); (try simp only [List.getElem_toArray, List.getElem_cons_zero, List.getElem_cons_succ, Act.put, List.setIfInBounds_toArray, List.set_cons_zero, List.set_cons_succ]))
      generalize t.extract 0 I = A0 at *
      generalize (u.extract J 7).extract 0 1 = x at *
      generalize t.extract (I + 1) t.size = A1 at *
      have n1 : ¬ 9223372036854775807 < A0.size + x.size := by omega
      have n2 : ¬ 9223372036854775807 < A0.size + x.size + A1.size := by omega
      (refine wpAnyH_take (i := 4) (v := ?_) rfl (by kernel_rfl) (by kernel_rfl) (by kernel_rfl) (fun _ _ _ h => h) (Or.inl ⟨by rfl, ?_⟩) hHeld ?_; rotate_left; (· (intro w' hSw; go_simp; try with_reducible rfl)); (try simp only [List.getElem_toArray, List.getElem_cons_zero, List.getElem_cons_succ, Act.put, List.setIfInBounds_toArray, List.set_cons_zero, List.set_cons_succ])); (refine wpAnyH_take (i := 9) (v := ?_) rfl (by kernel_rfl) (by kernel_rfl) (by kernel_rfl) (fun _ _ _ h => h) (Or.inl ⟨by rfl, ?_⟩) hHeld ?_; rotate_left; (· (intro w' hSw; go_simp; try with_reducible rfl)); (try simp only [List.getElem_toArray, List.getElem_cons_zero, List.getElem_cons_succ, Act.put, List.setIfInBounds_toArray, List.set_cons_zero, List.set_cons_succ])); (refine wpAnyH_take (i := 10) (v := ?_) rfl (by kernel_rfl) (by kernel_rfl) (by kernel_rfl) (fun _ _ _ h => h) (Or.inl ⟨by rfl, ?_⟩) hHeld ?_; rotate_left; (· (intro w' hSw; go_simp; try with_reducible rfl)); (try simp only [List.getElem_toArray, List.getElem_cons_zero, List.getElem_cons_succ, Act.put, List.setIfInBounds_toArray, List.set_cons_zero, List.set_cons_succ]))
      refine wpAnyH_done (by kernel_rfl) ?_ _
      have D3 := Lib.hid (Cur.drewN C3.out 1)
      have N3 := Lib.hid (Moved.drewN M3.out 1)
      have SZ : Hid ((A0 ++ x ++ A1).size ≤ 3000) := Lib.hid (by rw [ByteArray.size_append, ByteArray.size_append]; omega)
      clear hHeld
      go_wp2_with fail
      go_ret
      exact ⟨_, rfl, SZ.out, D3.out, N3.out⟩
    · have q1' : (sw == 1) = false := by simpa using q1
      clear q0 q1
      go_wp2_with fail
      refine wp_region_held_drew (S := fun w' => True) (by kernel_rfl) trivial (fun hHeld => ?_)
      (refine wpAnyH_take (i := 0) (v := ?_) rfl (by kernel_rfl) (by kernel_rfl) (by kernel_rfl) (fun _ _ _ h => h) (Or.inl ⟨by rfl, ?_⟩) hHeld ?_; rotate_left; (· (intro w' hSw; go_simp; try with_reducible rfl)); (try simp only [List.getElem_toArray, List.getElem_cons_zero, List.getElem_cons_succ, Act.put, List.setIfInBounds_toArray, List.set_cons_zero, List.set_cons_succ])); (refine wpAnyH_take (i := 1) (v := ?_) rfl (by kernel_rfl) (by kernel_rfl) (by kernel_rfl) (fun _ _ _ h => h) (Or.inl ⟨by rfl, ?_⟩) hHeld ?_; rotate_left; (· (intro w' hSw; go_simp; try with_reducible rfl)); (try simp only [List.getElem_toArray, List.getElem_cons_zero, List.getElem_cons_succ, Act.put, List.setIfInBounds_toArray, List.set_cons_zero, List.set_cons_succ])); (refine wpAnyH_take (i := 3) (v := ?_) rfl (by kernel_rfl) (by kernel_rfl) (by kernel_rfl) (fun _ _ _ h => h) (Or.inl ⟨by rfl, ?_⟩) hHeld ?_; rotate_left; (· (intro w' hSw; go_simp; try with_reducible rfl)); (try simp only [List.getElem_toArray, List.getElem_cons_zero, List.getElem_cons_succ, Act.put, List.setIfInBounds_toArray, List.set_cons_zero, List.set_cons_succ])); (refine wpAnyH_take (i := 4) (v := ?_) rfl (by kernel_rfl) (by kernel_rfl) (by kernel_rfl) (fun _ _ _ h => h) (Or.inl ⟨by rfl, ?_⟩) hHeld ?_; rotate_left; (· (intro w' hSw; go_simp; try with_reducible rfl)); (try simp only [List.getElem_toArray, List.getElem_cons_zero, List.getElem_cons_succ, Act.put, List.setIfInBounds_toArray, List.set_cons_zero, List.set_cons_succ])); (refine wpAnyH_take (i := 5) (v := ?_) rfl (by kernel_rfl) (by kernel_rfl) (by kernel_rfl) (fun _ _ _ h => h) (Or.inl ⟨by rfl, ?_⟩) hHeld ?_; rotate_left; (· (intro w' hSw; go_simp; try with_reducible rfl)); (try simp only [List.getElem_toArray, List.getElem_cons_zero, List.getElem_cons_succ, Act.put, List.setIfInBounds_toArray, List.set_cons_zero, List.set_cons_succ])); (refine wpAnyH_take (i := 2) (v := ?_) rfl (by kernel_rfl) (by kernel_rfl) (by kernel_rfl) (fun _ _ _ h => h) (Or.inl ⟨by rfl, ?_⟩) hHeld ?_; rotate_left; (· (intro w' hSw; go_simp; try with_reducible rfl)); (try simp only [List.getElem_toArray, List.getElem_cons_zero, List.getElem_cons_succ, Act.put, List.setIfInBounds_toArray, List.set_cons_zero, List.set_cons_succ])); (refine wpAnyH_take (i := 6) (v := ?_) rfl (by kernel_rfl) (by kernel_rfl) (by kernel_rfl) (fun _ _ _ h => h) (Or.inl ⟨by rfl, ?_⟩) hHeld ?_; rotate_left; (· (intro w' hSw; go_simp; try with_reducible rfl)); (try simp only [List.getElem_toArray, List.getElem_cons_zero, List.getElem_cons_succ, Act.put, List.setIfInBounds_toArray, List.set_cons_zero, List.set_cons_succ]))
      generalize t.extract 0 I = A0 at *
      generalize t.extract (I + 1) t.size = A1 at *
      have n1 : ¬ 9223372036854775807 < A0.size + A1.size := by omega
      (refine wpAnyH_take (i := 7) (v := ?_) rfl (by kernel_rfl) (by kernel_rfl) (by kernel_rfl) (fun _ _ _ h => h) (Or.inl ⟨by rfl, ?_⟩) hHeld ?_; rotate_left; (· (intro w' hSw; go_simp; try with_reducible rfl)); (try simp only [List.getElem_toArray, List.getElem_cons_zero, List.getElem_cons_succ, Act.put, List.setIfInBounds_toArray, List.set_cons_zero, List.set_cons_succ])); (refine wpAnyH_take (i := 8) (v := ?_) rfl (by kernel_rfl) (by kernel_rfl) (by kernel_rfl) (fun _ _ _ h => h) (Or.inl ⟨by rfl, ?_⟩) hHeld ?_; rotate_left; (· (intro w' hSw; go_simp; try with_reducible rfl)); (try simp only [List.getElem_toArray, List.getElem_cons_zero, List.getElem_cons_succ, Act.put, List.setIfInBounds_toArray, List.set_cons_zero, List.set_cons_succ]))
      refine wpAnyH_done (by kernel_rfl) ?_ _
      have D3 := Lib.hid (Cur.drewN C3.out 1)
      have N3 := Lib.hid (Moved.drewN M3.out 1)
      have SZ : Hid ((A0 ++ A1).size ≤ 3000) := Lib.hid (by rw [ByteArray.size_append]; omega)
      clear hHeld
      go_wp2_with fail
      go_ret
      exact ⟨_, rfl, SZ.out, D3.out, N3.out⟩

def sample : ByteArray := ⟨#[97, 98, 99, 97, 47, 98, 99, 97, 98, 47, 46, 46, 46, 46, 47, 46, 46, 46, 46, 47, 46, 46, 46, 46, 47, 46, 46, 46, 46]⟩

set_option maxHeartbeats 1600000 in
set_option maxRecDepth 100000 in
theorem drawParse (a : Option Addr) (len cap : Nat) (w : World) (h : Code w a len) :
    Calls Try.prog 28 #[.slice a len cap] w fun e w' => ∃ s : ByteArray, e = .returned (.string s) ∧ s.size ≤ 3000 ∧ Below w.heap.size w w' := by
  have C0 := cur_new (cap := cap) h
  have HC := Lib.hid C0
  have M0 := Lib.hid ((kept_refl w).alloc (.cells #[.slice a len cap, .int .i64 0, .int .u64 0] 69))
  clear h C0
  go_enter Try.func28, Try.ntmps28
  go_wp2_with fail
  refine (rack_any w.heap.size _ _ HC.out (by omega)).mono ?_
  rintro e w1 ⟨ns, rfl, hl, cc, mm⟩
  have H1 := Has.box w1 27 hl (by omega)
  have C1 := Lib.hid (Cur.alloc cc (.cells (ints ns).toArray 27))
  have M1 : Hid (Kept w (w1.alloc (.cells (ints ns).toArray 27))) := Lib.hid (Kept.alloc (Moved.below M0.out mm (Nat.le_refl _) M0.out.size) _)
  clear HC M0 cc mm
  go_wp2_with (first | (refine store_new rfl 27 _ _ rfl _ _ _ rfl _ rfl _ rfl rfl ?_ ?_ ?_; (· (first | assumption | rfl)); (· kernel_rfl)) | (refine load_has rfl 27 _ rfl _ rfl ?_ 24 ?_ _ Try.underlying27 rfl ?_ ?_; rotate_left; (· (repeat (first | (with_reducible assumption) | ((with_reducible refine Has.box _ _ ?_ ?_) <;> (first | assumption | decide)) | (with_reducible refine Has.alloc ?_ _) | ((with_reducible refine Has.putOther ?_ _ _ ?_); rotate_left; omega; skip) | ((with_reducible refine Has.below ?_ ?_); rotate_left; assumption)))); (· kernel_rfl)))
  refine (l2Rack_any ns _ hl).mono ?_
  rintro e w2 ⟨rfl, bb⟩
  have H2 := H1.below bb
  have C2 := Lib.hid (C1.out.below bb)
  have M2 := Lib.hid (M1.out.call bb)
  clear H1 C1 M1 bb
  by_cases hv : vR ns = true
  case' pos =>
    rw [hv]
    have HV := Lib.hid hv
    go_wp2_with (refine load_has rfl 27 _ rfl _ rfl ?_ 24 ?_ _ Try.underlying27 rfl ?_ ?_; rotate_left; (· (repeat (first | (with_reducible assumption) | ((with_reducible refine Has.box _ _ ?_ ?_) <;> (first | assumption | decide)) | (with_reducible refine Has.alloc ?_ _) | ((with_reducible refine Has.putOther ?_ _ _ ?_); rotate_left; omega; skip) | ((with_reducible refine Has.below ?_ ?_); rotate_left; assumption)))); (· kernel_rfl))
    refine (l2Text_any ns _ hl HV.out).mono ?_
    rintro e w3 ⟨rfl, bb⟩
    have CZ := Lib.hid (C2.out.below bb)
    have MZ := Lib.hid (M2.out.call bb)
    have hsz : (mk (textL ns)).size = 29 := by rw [mk_size]; exact (text_get hl HV.out).1
    generalize mk (textL ns) = s at *
    clear H2 C2 M2 bb
    go_wp2_with fail
  case' neg =>
    have hf : vR ns = false := by simpa using hv
    rw [hf]
    have CZ := C2
    have MZ := M2
    clear hv hf
    obtain ⟨s, hs⟩ : ∃ s, s = sample := ⟨_, rfl⟩
    have hsz : s.size = 29 := by rw [hs]; rfl
    go_wp2_with fail
    rw [show (⟨#[97, 98, 99, 97, 47, 98, 99, 97, 98, 47, 46, 46, 46, 46, 47, 46, 46, 46, 46, 47, 46, 46, 46, 46, 47, 46, 46, 46, 46]⟩ : ByteArray) = s from hs.symm]
    clear hs
  all_goals
    refine (one_any w.heap.size _ 3 _ CZ.out (by omega) (by omega) (by omega)).mono ?_
    rintro e w4 ⟨t, rfl, cc, mm⟩
    have C4 := Lib.hid cc
    have M4 : Hid (Kept w w4) := Lib.hid (Moved.below MZ.out mm (Nat.le_refl _) MZ.out.size)
    clear CZ MZ cc mm
    cases t
    case' false =>
      go_wp2_with fail
      go_ret
      exact ⟨s, rfl, by omega, M4.out⟩
    case' true =>
      go_wp2_with fail
      refine (spoilt_any w.heap.size _ s _ _ C4.out (by omega) (by omega) (by omega) (by rfl)).mono ?_
      rintro e w5 ⟨r, rfl, hr, cc, mm⟩
      have M5 : Hid (Kept w w5) := Lib.hid (Moved.below M4.out mm (Nat.le_refl _) M4.out.size)
      clear C4 M4 cc mm
      go_wp2_with fail
      go_ret
      exact ⟨r, rfl, hr, M5.out⟩
end Go.Proofs.Ytlnbhopigjkkkaa.base
