/- The walk of NameKeys: the Go text returns true, and writes nothing that was there. -/
import Derived.Test.YtkiomhnjfakjbaaRefName
import Derived.Test.YtkiomhnjfakjbaaLess
namespace Go.Proofs.Ytkiomhnjfakjbaa.nameKeys
open Go.ChangeShapes Go.WideShapes Go.ChangeAt Go.RowKit
set_option linter.unusedVariables false
def fw : ByteArray := ⟨#[102, 114, 97, 109, 101, 119, 114, 107]⟩
def tk : ByteArray := ⟨#[116, 97, 115, 107, 48, 48, 48, 49]⟩
theorem fw_facts (p : Nat) (h : 1 + p ≤ 8) : (fw.extract 0 (1 + p)).size = 1 + p ∧ (fw.extract 0 (1 + p)).data.toList.all plU = true ∧ (fw.extract 0 (1 + p)).data.toList.head? = some 102 := by
  obtain h | h | h | h | h | h | h | h : p = 0 ∨ p = 1 ∨ p = 2 ∨ p = 3 ∨ p = 4 ∨ p = 5 ∨ p = 6 ∨ p = 7 := by omega
  all_goals
    subst h
    decide +kernel
theorem tk_facts (p : Nat) (h : 1 + p ≤ 8) : (tk.extract 0 (1 + p)).size = 1 + p ∧ (tk.extract 0 (1 + p)).data.toList.all plU = true ∧ (tk.extract 0 (1 + p)).data.toList.head? = some 116 := by
  obtain h | h | h | h | h | h | h | h : p = 0 ∨ p = 1 ∨ p = 2 ∨ p = 3 ∨ p = 4 ∨ p = 5 ∨ p = 6 ∨ p = 7 := by omega
  all_goals
    subst h
    decide +kernel
theorem conv_one (u : UInt8) (W : World) : (convert 23 9 (.slice (some ⟨W.heap.size, 0, none⟩) 1 1)).run Try.prog (W.alloc (.cells #[.int .u8 (u.toNat : Int)] 5)) = .ok (.string ⟨#[u]⟩) (W.alloc (.cells #[.int .u8 (u.toNat : Int)] 5)) :=
  run_conv_reads (l := [u]) Try.underlying23 Try.underlying5 Try.underlying9 (reads_one W (.int .u8 (u.toNat : Int)) 5)
theorem allB2 (a b : ByteArray) : allB [a, b] = (rightB a.data.toList && (rightB b.data.toList && !decide (a.data.toList = b.data.toList))) := by
  simp [allB, okAt, List.range_succ]
theorem allB3 (a b c : ByteArray) : allB [a, b, c] = (rightB a.data.toList && (rightB b.data.toList && !decide (a.data.toList = b.data.toList)) && (rightB c.data.toList && !(decide (a.data.toList = c.data.toList) || decide (b.data.toList = c.data.toList)))) := by
  simp [allB, okAt, List.range_succ, Bool.and_assoc]
theorem wakes_any (w : World) :
    Calls Try.prog 11 #[] w fun e w' => e = .returned (.bool true) ∧ w = w' := by
  have r1 : rightB [] = false := by decide
  have r2 : rightB [97, 49] = true := by decide
  go_enter Try.func11, Try.ntmps11
  go_wp2_with (go_at_call 10; refine (Right_any _ _ (by decide)).mono ?_; rintro e w' ⟨rfl, rfl⟩)
  go_ret
  exact ⟨rfl, rfl⟩
theorem right_of (s : ByteArray) (h1 : 1 ≤ s.size) (h8 : s.size ≤ 8) (h : s.data.toList.all plU = true) : rightB s.data.toList = true := by
  unfold rightB; rw [h]
  have e : s.data.toList.length = s.size := by simp
  rw [e]; simp [h1, h8]
theorem all_ext (s : ByteArray) (i j : Nat) (h : s.data.toList.all plU = true) : (s.extract i j).data.toList.all plU = true := by
  rw [List.all_eq_true] at *
  intro x hx
  apply h
  rw [ByteArray.data_extract, Array.toList_extract] at hx
  exact List.mem_of_mem_drop (List.mem_of_mem_take (by simpa [List.extract] using hx))
theorem x_facts (S : ByteArray) (u : UInt8) (r : Nat) (hr : r < S.size) (h8 : S.size ≤ 8) (h : S.data.toList.all plU = true) :
    rightB (S.extract 0 r ++ ⟨#[u]⟩ ++ S.extract (r + 1) S.size).data.toList = plB (u.toNat : Int) ∧ (S.extract 0 r ++ ⟨#[u]⟩ ++ S.extract (r + 1) S.size).size ≤ 8 := by
  have hs : (S.extract 0 r ++ ⟨#[u]⟩ ++ S.extract (r + 1) S.size).size = S.size := by
    rw [ByteArray.size_append, ByteArray.size_append, ByteArray.size_extract, ByteArray.size_extract]
    show min r S.size - 0 + 1 + _ = _
    omega
  refine ⟨?_, by omega⟩
  have hl : (S.extract 0 r ++ ⟨#[u]⟩ ++ S.extract (r + 1) S.size).data.toList.length = S.size := by rw [Array.length_toList]; exact hs
  unfold rightB
  rw [hl, ByteArray.data_append, Array.toList_append, ByteArray.data_append, Array.toList_append, List.all_append, List.all_append, all_ext S 0 r h, all_ext S (r + 1) S.size h]
  have h1 : 1 ≤ S.size := by omega
  simp [h1, h8, plU]
set_option maxRecDepth 100000 in
set_option maxHeartbeats 20000000 in
theorem walk (a0 : Int) (a1 : Int) (a2 : Int) (a3 : Int) (w : World) (b0 : -9223372036854775808 ≤ a0 ∧ a0 ≤ 9223372036854775807) (b1 : -9223372036854775808 ≤ a1 ∧ a1 ≤ 9223372036854775807) (b2 : -9223372036854775808 ≤ a2 ∧ a2 ≤ 9223372036854775807) (b3 : 0 ≤ a3 ∧ a3 ≤ 255) :
    Calls Try.prog 3 #[.int .i64 a0, .int .i64 a1, .int .i64 a2, .int .u8 a3] w fun e w' => e = .returned (.bool true) ∧ Below w.heap.size w w' := by
  obtain ⟨u, rfl⟩ : ∃ u : UInt8, a3 = (u.toNat : Int) := ⟨a3.toNat.toUInt8, (u8_of a3 b3.1 b3.2).symm⟩
  have m1 := Int.emod_nonneg a0 (show (8 : Int) ≠ 0 by omega)
  have m2 := Int.emod_lt_of_pos a0 (show (0 : Int) < 8 by omega)
  have m3 := Int.emod_nonneg a1 (show (8 : Int) ≠ 0 by omega)
  have m4 := Int.emod_lt_of_pos a1 (show (0 : Int) < 8 by omega)
  obtain ⟨p, hp⟩ := Int.eq_ofNat_of_zero_le m1
  obtain ⟨q, hq⟩ := Int.eq_ofNat_of_zero_le m3
  have Hp := Lib.hid hp
  have Hq := Lib.hid hq
  have p1 : 1 + (p : Int) ≤ 8 := by omega
  have q1 : 1 + (q : Int) ≤ 8 := by omega
  clear hp hq m1 m2 m3 m4
  go_enter Try.func3, Try.ntmps3
  go_wp2_with fail
  refine (Within_any _ _ _ (by omega) (by omega) (by omega) (by omega)).mono ?_
  rintro e w' ⟨rfl, rfl⟩
  rw [Hp.out]
  go_wp2_with fail
  refine (Within_any _ _ _ (by omega) (by omega) (by omega) (by omega)).mono ?_
  rintro e w' ⟨rfl, rfl⟩
  rw [Hq.out]
  go_wp2_with fail
  go_quiet (fail)
  go_wp2_with fail
  have hS := fw_facts p (by omega)
  have hT := tk_facts q (by omega)
  unfold fw at hS
  unfold tk at hT
  generalize ((⟨#[102, 114, 97, 109, 101, 119, 114, 107]⟩ : ByteArray).extract 0 (1 + p)) = S at *
  generalize ((⟨#[116, 97, 115, 107, 48, 48, 48, 49]⟩ : ByteArray).extract 0 (1 + q)) = T at *
  have HS := Lib.hid hS
  have HT := Lib.hid hT
  have hS8 : S.size ≤ 8 := by omega
  have hT8 : T.size ≤ 8 := by omega
  have m1 := Int.emod_nonneg a2 (show (1 + (p : Int)) ≠ 0 by omega)
  have m2 := Int.emod_lt_of_pos a2 (show (0 : Int) < 1 + (p : Int) by omega)
  obtain ⟨r, hr⟩ := Int.eq_ofNat_of_zero_le m1
  have Hr := Lib.hid hr
  have r1 : (r : Int) < 1 + (p : Int) := by omega
  have r2 : r < S.size := by omega
  clear hS hT m1 m2 hr
  refine (Within_any _ _ _ (by omega) (by omega) (by omega) (by omega)).mono ?_
  rintro e w' ⟨rfl, rfl⟩
  rw [Hr.out]
  have hcv : ∀ n, (convert 23 9 (.slice (some ⟨w.heap.size, 0, none⟩) 1 1)).run Try.prog ((w.drewN n).alloc (.cells #[.int .u8 (u.toNat : Int)] 5)) = .ok (.string ⟨#[u]⟩) ((w.drewN n).alloc (.cells #[.int .u8 (u.toNat : Int)] 5)) := fun n => conv_one u (w.drewN n)
  have r3 : r ≤ S.size := by omega
  have r4 : (r : Int) ≤ (S.size : Int) := by omega
  have r5 : (r : Int) + 1 ≤ (S.size : Int) := by omega
  have r6 : r + 1 ≤ S.size := by omega
  go_wp2_with fail
  go_region
  have hX := x_facts S u r r2 hS8 HS.out.2.1
  have hB0 : Below w.heap.size w ((w.drewN (nq + 1)).alloc (.cells #[.int .u8 (u.toNat : Int)] 5)) := (below_drewN (Below.refl _ _) _).alloc (Nat.le_refl _) _
  have hZ0 : w.heap.size ≤ ((w.drewN (nq + 1)).alloc (.cells #[.int .u8 (u.toNat : Int)] 5)).heap.size := by
    have := hB0.size; exact this
  generalize S.extract 0 r ++ ⟨#[u]⟩ ++ S.extract (r + 1) S.size = X at *
  generalize (w.drewN (nq + 1)).alloc (.cells #[.int .u8 (u.toNat : Int)] 5) = W0 at *
  have rS : rightB S.data.toList = true := right_of S (by omega) hS8 HS.out.2.1
  have rT : rightB T.data.toList = true := right_of T (by have := HT.out.1; omega) hT8 HT.out.2.1
  have rX : rightB X.data.toList = plB (u.toNat : Int) := hX.1
  have rE : rightB [] = false := by decide
  have rL : rightB (S ++ ⟨#[49, 50, 51, 52, 53, 54, 55, 56]⟩).data.toList = false := by
    have e : (S ++ ⟨#[49, 50, 51, 52, 53, 54, 55, 56]⟩ : ByteArray).data.toList.length = S.size + 8 := by
      rw [Array.length_toList]; exact ByteArray.size_append ..
    have d8 : decide (S.size + 8 ≤ 8) = false := by rw [decide_eq_false_iff_not]; omega
    unfold rightB
    rw [e, d8]
    simp
  have hST : decide (S.data.toList = T.data.toList) = false := by
    rw [decide_eq_false_iff_not]; intro e
    have h1 := HS.out.2.2
    rw [e, HT.out.2.2] at h1
    exact absurd h1 (by decide)
  have A2 : allB [S, T] = true := by rw [allB2, rS, rT, hST]; rfl
  have sS : S.size ≤ maxLen := by unfold maxLen; omega
  have sT : T.size ≤ maxLen := by unfold maxLen; omega
  have sX : X.size ≤ maxLen := by have := hX.2; unfold maxLen; omega
  have sE : (⟨#[]⟩ : ByteArray).size ≤ maxLen := by decide
  have s2 : Hid (∀ s ∈ [S, T], s.size ≤ maxLen) := by intro s hs; simp at hs; rcases hs with rfl | rfl <;> assumption
  have s3 : Hid (∀ s ∈ [S, T, X], s.size ≤ maxLen) := by intro s hs; simp at hs; rcases hs with rfl | rfl | rfl <;> assumption
  have eX : ∀ Y : ByteArray, decide (Y.data.toList = X.data.toList) = (X.toList == Y.toList) := fun Y => by
    rw [Bool.eq_iff_iff, ByteArray.toList_eq, ByteArray.toList_eq]; simp; exact eq_comm
  have A3 : allB [S, T, X] = (plB (u.toNat : Int) && !((X.toList == S.toList) || (X.toList == T.toList))) := by
    rw [allB3, rS, rT, hST, rX, eX S, eX T]; rfl
  have HA3 := Lib.hid A3
  have hX8 := hX.2
  clear A3 eX hX hST hcv r1 r3 r4 r5 r6 r2
  have hz : (97 ≤ (u.toNat : Int) ∧ (u.toNat : Int) ≤ 122) ∨ (48 ≤ (u.toNat : Int) ∧ (u.toNat : Int) ≤ 57) ∨ (u.toNat : Int) < 48 ∨ (58 ≤ (u.toNat : Int) ∧ (u.toNat : Int) < 97) ∨ 122 < (u.toNat : Int) := by omega
  rcases hz with ⟨hz1, hz2⟩ | ⟨hz1, hz2⟩ | hz1 | ⟨hz1, hz2⟩ | hz1
  · have hp : plB (u.toNat : Int) = true := plB_yes (by omega)
    have c1 : (X.toList == S.toList) = true ∨ (X.toList == S.toList) = false := by cases (X.toList == S.toList) <;> simp
    have c2 : (X.toList == T.toList) = true ∨ (X.toList == T.toList) = false := by cases (X.toList == T.toList) <;> simp
    rcases c1 with c1 | c1 <;> rcases c2 with c2 | c2
    all_goals
      have A3 := HA3.out
      rw [hp, c1, c2] at A3
      simp at A3
      go_wp2_with fail
      refine (Key_any _ _ _ (by assumption) (by assumption)).mono ?_
      rintro e k0 ⟨rfl, hk0⟩
      have q0 := below_same hB0 hZ0 hk0
      go_wp2_with fail
      refine (Key_any _ _ _ (by assumption) (by assumption)).mono ?_
      rintro e k1 ⟨rfl, hk1⟩
      have q1 := below_same q0.1 q0.2 hk1
      go_wp2_with fail
      refine (Key_any _ _ _ (by assumption) (by assumption)).mono ?_
      rintro e k2 ⟨rfl, hk2⟩
      have q2 := below_same q1.1 q1.2 hk2
      go_wp2_with fail
      refine (Key_any _ _ _ (by assumption) (by assumption)).mono ?_
      rintro e k3 ⟨rfl, hk3⟩
      have q3 := below_same q2.1 q2.2 hk3
      go_wp2_with fail
      refine (Key_any _ _ _ (by assumption) (by assumption)).mono ?_
      rintro e k4 ⟨rfl, hk4⟩
      have q4 := below_same q3.1 q3.2 hk4
      go_wp2_with fail
      refine (All_any _ 2 2 [S, T] _ (reads_two _ (.string S) (.string T) _) (by omega) s2.out).mono ?_
      rintro e k5 ⟨rfl, hk5⟩
      have q5 := below_next q4.1 q4.2 _ hk5
      go_wp2_with fail
      refine (All_any _ 3 3 [S, T, X] _ (reads_three _ (.string S) (.string T) (.string X) _) (by omega) s3.out).mono ?_
      rintro e k6 ⟨rfl, hk6⟩
      have q6 := below_next q5.1 q5.2 _ hk6
      go_wp2_with fail
      refine (Right_any _ _ (by rw [ByteArray.size_append]; show S.size + 8 ≤ maxLen; unfold maxLen; omega)).mono ?_
      rintro e k7 ⟨rfl, rfl⟩
      rw [rL]
      go_wp2_with fail
      refine (wakes_any _).mono ?_
      rintro e k8 ⟨rfl, rfl⟩
      go_wp2
      go_ret
      exact ⟨by first | rfl | exact ret_bool (by simp; done) | exact ret_bool (by simp; omega), q6.1⟩
  · have hp : plB (u.toNat : Int) = true := plB_yes (by omega)
    have c1 : (X.toList == S.toList) = true ∨ (X.toList == S.toList) = false := by cases (X.toList == S.toList) <;> simp
    have c2 : (X.toList == T.toList) = true ∨ (X.toList == T.toList) = false := by cases (X.toList == T.toList) <;> simp
    rcases c1 with c1 | c1 <;> rcases c2 with c2 | c2
    all_goals
      have A3 := HA3.out
      rw [hp, c1, c2] at A3
      simp at A3
      go_wp2_with fail
      refine (Key_any _ _ _ (by assumption) (by assumption)).mono ?_
      rintro e k0 ⟨rfl, hk0⟩
      have q0 := below_same hB0 hZ0 hk0
      go_wp2_with fail
      refine (Key_any _ _ _ (by assumption) (by assumption)).mono ?_
      rintro e k1 ⟨rfl, hk1⟩
      have q1 := below_same q0.1 q0.2 hk1
      go_wp2_with fail
      refine (Key_any _ _ _ (by assumption) (by assumption)).mono ?_
      rintro e k2 ⟨rfl, hk2⟩
      have q2 := below_same q1.1 q1.2 hk2
      go_wp2_with fail
      refine (Key_any _ _ _ (by assumption) (by assumption)).mono ?_
      rintro e k3 ⟨rfl, hk3⟩
      have q3 := below_same q2.1 q2.2 hk3
      go_wp2_with fail
      refine (Key_any _ _ _ (by assumption) (by assumption)).mono ?_
      rintro e k4 ⟨rfl, hk4⟩
      have q4 := below_same q3.1 q3.2 hk4
      go_wp2_with fail
      refine (All_any _ 2 2 [S, T] _ (reads_two _ (.string S) (.string T) _) (by omega) s2.out).mono ?_
      rintro e k5 ⟨rfl, hk5⟩
      have q5 := below_next q4.1 q4.2 _ hk5
      go_wp2_with fail
      refine (All_any _ 3 3 [S, T, X] _ (reads_three _ (.string S) (.string T) (.string X) _) (by omega) s3.out).mono ?_
      rintro e k6 ⟨rfl, hk6⟩
      have q6 := below_next q5.1 q5.2 _ hk6
      go_wp2_with fail
      refine (Right_any _ _ (by rw [ByteArray.size_append]; show S.size + 8 ≤ maxLen; unfold maxLen; omega)).mono ?_
      rintro e k7 ⟨rfl, rfl⟩
      rw [rL]
      go_wp2_with fail
      refine (wakes_any _).mono ?_
      rintro e k8 ⟨rfl, rfl⟩
      go_wp2
      go_ret
      exact ⟨by first | rfl | exact ret_bool (by simp; done) | exact ret_bool (by simp; omega), q6.1⟩
  · have hp : plB (u.toNat : Int) = false := plB_no (by omega)
    have A3 : allB [S, T, X] = false := by rw [HA3.out, hp]; rfl
    go_wp2_with fail
    refine (Key_any _ _ _ (by assumption) (by assumption)).mono ?_
    rintro e k0 ⟨rfl, hk0⟩
    have q0 := below_same hB0 hZ0 hk0
    go_wp2_with fail
    refine (Key_any _ _ _ (by assumption) (by assumption)).mono ?_
    rintro e k1 ⟨rfl, hk1⟩
    have q1 := below_same q0.1 q0.2 hk1
    go_wp2_with fail
    refine (Key_any _ _ _ (by assumption) (by assumption)).mono ?_
    rintro e k2 ⟨rfl, hk2⟩
    have q2 := below_same q1.1 q1.2 hk2
    go_wp2_with fail
    refine (Key_any _ _ _ (by assumption) (by assumption)).mono ?_
    rintro e k3 ⟨rfl, hk3⟩
    have q3 := below_same q2.1 q2.2 hk3
    go_wp2_with fail
    refine (Key_any _ _ _ (by assumption) (by assumption)).mono ?_
    rintro e k4 ⟨rfl, hk4⟩
    have q4 := below_same q3.1 q3.2 hk4
    go_wp2_with fail
    refine (All_any _ 2 2 [S, T] _ (reads_two _ (.string S) (.string T) _) (by omega) s2.out).mono ?_
    rintro e k5 ⟨rfl, hk5⟩
    have q5 := below_next q4.1 q4.2 _ hk5
    go_wp2_with fail
    refine (All_any _ 3 3 [S, T, X] _ (reads_three _ (.string S) (.string T) (.string X) _) (by omega) s3.out).mono ?_
    rintro e k6 ⟨rfl, hk6⟩
    have q6 := below_next q5.1 q5.2 _ hk6
    go_wp2_with fail
    refine (Right_any _ _ (by rw [ByteArray.size_append]; show S.size + 8 ≤ maxLen; unfold maxLen; omega)).mono ?_
    rintro e k7 ⟨rfl, rfl⟩
    rw [rL]
    go_wp2_with fail
    refine (wakes_any _).mono ?_
    rintro e k8 ⟨rfl, rfl⟩
    go_wp2
    go_ret
    exact ⟨by first | rfl | exact ret_bool (by simp; done) | exact ret_bool (by simp; omega), q6.1⟩
  · have hp : plB (u.toNat : Int) = false := plB_no (by omega)
    have d57 : decide ((u.toNat : Int) ≤ 57) = false := by simp; omega
    have A3 : allB [S, T, X] = false := by rw [HA3.out, hp]; rfl
    go_wp2_with fail
    refine (Key_any _ _ _ (by assumption) (by assumption)).mono ?_
    rintro e k0 ⟨rfl, hk0⟩
    have q0 := below_same hB0 hZ0 hk0
    go_wp2_with fail
    refine (Key_any _ _ _ (by assumption) (by assumption)).mono ?_
    rintro e k1 ⟨rfl, hk1⟩
    have q1 := below_same q0.1 q0.2 hk1
    go_wp2_with fail
    refine (Key_any _ _ _ (by assumption) (by assumption)).mono ?_
    rintro e k2 ⟨rfl, hk2⟩
    have q2 := below_same q1.1 q1.2 hk2
    go_wp2_with fail
    refine (Key_any _ _ _ (by assumption) (by assumption)).mono ?_
    rintro e k3 ⟨rfl, hk3⟩
    have q3 := below_same q2.1 q2.2 hk3
    go_wp2_with fail
    refine (Key_any _ _ _ (by assumption) (by assumption)).mono ?_
    rintro e k4 ⟨rfl, hk4⟩
    have q4 := below_same q3.1 q3.2 hk4
    go_wp2_with fail
    refine (All_any _ 2 2 [S, T] _ (reads_two _ (.string S) (.string T) _) (by omega) s2.out).mono ?_
    rintro e k5 ⟨rfl, hk5⟩
    have q5 := below_next q4.1 q4.2 _ hk5
    go_wp2_with fail
    refine (All_any _ 3 3 [S, T, X] _ (reads_three _ (.string S) (.string T) (.string X) _) (by omega) s3.out).mono ?_
    rintro e k6 ⟨rfl, hk6⟩
    have q6 := below_next q5.1 q5.2 _ hk6
    go_wp2_with fail
    refine (Right_any _ _ (by rw [ByteArray.size_append]; show S.size + 8 ≤ maxLen; unfold maxLen; omega)).mono ?_
    rintro e k7 ⟨rfl, rfl⟩
    rw [rL]
    go_wp2_with fail
    refine (wakes_any _).mono ?_
    rintro e k8 ⟨rfl, rfl⟩
    go_wp2
    go_ret
    exact ⟨by first | rfl | exact ret_bool (by simp; done) | exact ret_bool (by simp; omega), q6.1⟩
  · have hp : plB (u.toNat : Int) = false := plB_no (by omega)
    have d57 : decide ((u.toNat : Int) ≤ 57) = false := by simp; omega
    have d122 : decide ((u.toNat : Int) ≤ 122) = false := by simp; omega
    have A3 : allB [S, T, X] = false := by rw [HA3.out, hp]; rfl
    go_wp2_with fail
    refine (Key_any _ _ _ (by assumption) (by assumption)).mono ?_
    rintro e k0 ⟨rfl, hk0⟩
    have q0 := below_same hB0 hZ0 hk0
    go_wp2_with fail
    refine (Key_any _ _ _ (by assumption) (by assumption)).mono ?_
    rintro e k1 ⟨rfl, hk1⟩
    have q1 := below_same q0.1 q0.2 hk1
    go_wp2_with fail
    refine (Key_any _ _ _ (by assumption) (by assumption)).mono ?_
    rintro e k2 ⟨rfl, hk2⟩
    have q2 := below_same q1.1 q1.2 hk2
    go_wp2_with fail
    refine (Key_any _ _ _ (by assumption) (by assumption)).mono ?_
    rintro e k3 ⟨rfl, hk3⟩
    have q3 := below_same q2.1 q2.2 hk3
    go_wp2_with fail
    refine (Key_any _ _ _ (by assumption) (by assumption)).mono ?_
    rintro e k4 ⟨rfl, hk4⟩
    have q4 := below_same q3.1 q3.2 hk4
    go_wp2_with fail
    refine (All_any _ 2 2 [S, T] _ (reads_two _ (.string S) (.string T) _) (by omega) s2.out).mono ?_
    rintro e k5 ⟨rfl, hk5⟩
    have q5 := below_next q4.1 q4.2 _ hk5
    go_wp2_with fail
    refine (All_any _ 3 3 [S, T, X] _ (reads_three _ (.string S) (.string T) (.string X) _) (by omega) s3.out).mono ?_
    rintro e k6 ⟨rfl, hk6⟩
    have q6 := below_next q5.1 q5.2 _ hk6
    go_wp2_with fail
    refine (Right_any _ _ (by rw [ByteArray.size_append]; show S.size + 8 ≤ maxLen; unfold maxLen; omega)).mono ?_
    rintro e k7 ⟨rfl, rfl⟩
    rw [rL]
    go_wp2_with fail
    refine (wakes_any _).mono ?_
    rintro e k8 ⟨rfl, rfl⟩
    go_wp2
    go_ret
    exact ⟨by first | rfl | exact ret_bool (by simp; done) | exact ret_bool (by simp; omega), q6.1⟩

end Go.Proofs.Ytkiomhnjfakjbaa.nameKeys
