/- The walk of CodeWrites: the Go text returns true, and writes nothing that was there. -/
import Derived.Test.YtccbidcjdngnhaaText
namespace Go.Proofs.Ytccbidcjdngnhaa.codeWrites
open Go.ChangeShapes Go.WideShapes Go.ChangeAt Go.RowKit
set_option linter.unusedVariables false
theorem wakes_any (w : World) : Calls Try.prog 29 #[] w fun e w' => e = .returned (.bool true) ∧ Below w.heap.size w w' := by
  have hq : decide (numZ 300 = [172, 2]) = true := by decide +kernel
  have Hq := Lib.hid hq
  clear hq
  go_enter Try.func29, Try.ntmps29
  go_wp2_with fail
  refine (Number_any _ _).mono ?_
  rintro e w1 ⟨v1, rfl, hown, hbel⟩
  obtain ⟨A, c, rfl, hAc, hcm⟩ := own_slice hown
  have hread := Reads.of_own hown
  have hl := numZ_len 300
  go_wp2_with fail
  refine (SameByte_any _ _ _ _ 2 2 _ [172, 2] w1.heap.size _ _ (by simp) (Nat.le_refl _) (hread.alloc (Nat.le_refl _) _) (reads_two w1 (.int .u8 172) (.int .u8 2) 5) (by omega) (by omega)).mono ?_
  rintro e w2 ⟨rfl, hb2⟩
  rw [Hq.out]
  go_wp2
  go_ret
  exact ⟨rfl, (below_next hbel hbel.size _ hb2).1⟩
/-- zero bytes -/
def zs (k : Nat) : ByteArray := ⟨(List.replicate k 0).toArray⟩
theorem zs_size (k : Nat) : (zs k).size = k := by simp [zs, ByteArray.size]
theorem make_zs (k : Nat) (h : k ≤ 220) (W : World) : (Instr.makeSlice 40 (.int .i64 (k : Int)) (.int .i64 (k : Int))).run Try.prog W = .ok (.slice (some ⟨W.heap.size, 0, none⟩) k k) (W.alloc (.cells (madeCells #[.int .u8 0] k) 5)) := by
  obtain ⟨i0, hi, hz0, hz1, hz2⟩ := info_parts byte_info
  have h := run_make_rowN (P := Try.prog) 40 5 i0 (.int .u8 0) Try.underlying40 hi hz0 .i64 .i64 k k (Nat.le_refl _) (by rw [hz2]; omega) (by omega) W
  rw [hz1, Nat.mul_one] at h
  exact h
theorem conv_zs (k : Nat) (W : World) : (convert 40 9 (.slice (some ⟨W.heap.size, 0, none⟩) k k)).run Try.prog (W.alloc (.cells (madeCells #[.int .u8 0] k) 5)) = .ok (.string (zs k)) (W.alloc (.cells (madeCells #[.int .u8 0] k) 5)) :=
  run_conv_reads Try.underlying40 Try.underlying5 Try.underlying9 (reads_made W k 5)
set_option maxRecDepth 100000 in
set_option maxHeartbeats 2000000 in
theorem walk00 (a0 : Int) (a1 : Int) (a2 : ByteArray) (a3 : Int) (w : World) (b0 : -9223372036854775808 ≤ a0 ∧ a0 ≤ 9223372036854775807) (b1 : -9223372036854775808 ≤ a1 ∧ a1 ≤ 9223372036854775807) (b2 : a2.size ≤ 140737488351232) (b3 : -9223372036854775808 ≤ a3 ∧ a3 ≤ 9223372036854775807) (h3 : (a1.tmod 3 != 0) = false) (h5 : (a1.tmod 5 == 0) = false) :
    Calls Try.prog 7 #[.int .i64 a0, .int .i64 a1, .string a2, .int .i64 a3] w fun e w' => e = .returned (.bool true) ∧ Below w.heap.size w w' := by
  go_enter Try.func7, Try.ntmps7
  have hBel : Below w.heap.size w w := Below.refl _ _
  have hBsz : w.heap.size ≤ w.heap.size := Nat.le_refl _
  go_wp2_with fail
  refine (Number_any _ _).mono ?_
  rintro e w1 ⟨v1, rfl, ho1, hb1⟩
  obtain ⟨A1, c1, rfl, _, _⟩ := own_slice ho1
  have hr1 := Reads.of_own ho1
  have q1 := below_same hBel hBsz hb1
  go_wp2_with fail
  refine (rNumber_any _ _).mono ?_
  rintro e w2 ⟨v2, rfl, ho2, hb2⟩
  obtain ⟨A2, c2, rfl, _, _⟩ := own_slice ho2
  have hr2 := Reads.of_own ho2
  have q2 := below_same q1.1 q1.2 hb2
  go_wp2_with fail
  refine (SameByte_any _ _ _ _ _ _ _ _ w1.heap.size w2.heap.size _ hb2.size (Nat.le_refl _) (hr1.below hb2) hr2 (Nat.le_trans (numZ_len _) (by omega)) (Nat.le_trans (numZ_len _) (by omega))).mono ?_
  rintro e w3 ⟨rfl, hb3⟩
  have q3 := below_same q2.1 q2.2 hb3
  rw [show decide (numZ a0 = numZ a0) = true by simp]
  clear ho1 ho2 hr1 hr2 hb1 hb2 hb3 q1 q2
  go_wp2_with fail
  refine (Text_any _ _).mono ?_
  rintro e w4 ⟨v4, rfl, ho4, hb4⟩
  obtain ⟨A4, c4, rfl, _, _⟩ := own_slice ho4
  have hr4 := Reads.of_own ho4
  have q4 := below_same q3.1 q3.2 hb4
  go_wp2_with fail
  refine (rText_any _ _).mono ?_
  rintro e w5 ⟨v5, rfl, ho5, hb5⟩
  obtain ⟨A5, c5, rfl, _, _⟩ := own_slice ho5
  have hr5 := Reads.of_own ho5
  have q5 := below_same q4.1 q4.2 hb5
  go_wp2_with fail
  refine (SameByte_any _ _ _ _ _ _ _ _ w4.heap.size w5.heap.size _ hb5.size (Nat.le_refl _) (hr4.below hb5) hr5 (Nat.le_trans (textL_len _) (by omega)) (Nat.le_trans (textL_len _) (by omega))).mono ?_
  rintro e w6 ⟨rfl, hb6⟩
  have q6 := below_same q5.1 q5.2 hb6
  rw [show decide (textL a2 = textL a2) = true by simp]
  clear ho4 ho5 hr4 hr5 hb4 hb5 hb6 q3 q4 q5
  go_wp2_with fail
  refine (wakes_any _).mono ?_
  rintro e w7 ⟨rfl, hb7⟩
  go_wp2
  go_ret
  exact ⟨rfl, (below_same q6.1 q6.2 hb7).1⟩
set_option maxRecDepth 100000 in
set_option maxHeartbeats 2000000 in
theorem walk01 (a0 : Int) (a1 : Int) (a2 : ByteArray) (a3 : Int) (w : World) (b0 : -9223372036854775808 ≤ a0 ∧ a0 ≤ 9223372036854775807) (b1 : -9223372036854775808 ≤ a1 ∧ a1 ≤ 9223372036854775807) (b2 : a2.size ≤ 140737488351232) (b3 : -9223372036854775808 ≤ a3 ∧ a3 ≤ 9223372036854775807) (h3 : (a1.tmod 3 != 0) = false) (h5 : (a1.tmod 5 == 0) = true) :
    Calls Try.prog 7 #[.int .i64 a0, .int .i64 a1, .string a2, .int .i64 a3] w fun e w' => e = .returned (.bool true) ∧ Below w.heap.size w w' := by
  have m3 := Int.emod_nonneg a3 (show (220 : Int) ≠ 0 by omega)
  have m4 := Int.emod_lt_of_pos a3 (show (0 : Int) < 220 by omega)
  obtain ⟨k, hk⟩ := Int.eq_ofNat_of_zero_le m3
  have Hk := Lib.hid hk
  have hk2 : k ≤ 220 := by omega
  have hmk := fun W => make_zs k hk2 W
  have hcv := fun W => conv_zs k W
  have hzs : (zs k).size ≤ 220 := by rw [zs_size]; exact hk2
  clear hk m3 m4 hk2
  go_enter Try.func7, Try.ntmps7
  go_wp2_with fail
  refine (Within_any _ _ _ (by omega) (by omega) (by omega) (by omega)).mono ?_
  rintro e w' ⟨rfl, rfl⟩
  rw [Hk.out]
  go_wp2_with fail
  have hBel : Below w.heap.size w (w.alloc (.cells (madeCells #[.int .u8 0] k) 5)) := (Below.refl _ _).alloc (Nat.le_refl _) _
  have hBsz : w.heap.size ≤ (w.alloc (.cells (madeCells #[.int .u8 0] k) 5)).heap.size := by simp
  generalize w.alloc (.cells (madeCells #[.int .u8 0] k) 5) = wa at *
  clear hmk hcv
  go_wp2_with fail
  refine (Number_any _ _).mono ?_
  rintro e w1 ⟨v1, rfl, ho1, hb1⟩
  obtain ⟨A1, c1, rfl, _, _⟩ := own_slice ho1
  have hr1 := Reads.of_own ho1
  have q1 := below_same hBel hBsz hb1
  go_wp2_with fail
  refine (rNumber_any _ _).mono ?_
  rintro e w2 ⟨v2, rfl, ho2, hb2⟩
  obtain ⟨A2, c2, rfl, _, _⟩ := own_slice ho2
  have hr2 := Reads.of_own ho2
  have q2 := below_same q1.1 q1.2 hb2
  go_wp2_with fail
  refine (SameByte_any _ _ _ _ _ _ _ _ w1.heap.size w2.heap.size _ hb2.size (Nat.le_refl _) (hr1.below hb2) hr2 (Nat.le_trans (numZ_len _) (by omega)) (Nat.le_trans (numZ_len _) (by omega))).mono ?_
  rintro e w3 ⟨rfl, hb3⟩
  have q3 := below_same q2.1 q2.2 hb3
  rw [show decide (numZ a0 = numZ a0) = true by simp]
  clear ho1 ho2 hr1 hr2 hb1 hb2 hb3 q1 q2
  go_wp2_with fail
  refine (Text_any _ _).mono ?_
  rintro e w4 ⟨v4, rfl, ho4, hb4⟩
  obtain ⟨A4, c4, rfl, _, _⟩ := own_slice ho4
  have hr4 := Reads.of_own ho4
  have q4 := below_same q3.1 q3.2 hb4
  go_wp2_with fail
  refine (rText_any _ _).mono ?_
  rintro e w5 ⟨v5, rfl, ho5, hb5⟩
  obtain ⟨A5, c5, rfl, _, _⟩ := own_slice ho5
  have hr5 := Reads.of_own ho5
  have q5 := below_same q4.1 q4.2 hb5
  go_wp2_with fail
  refine (SameByte_any _ _ _ _ _ _ _ _ w4.heap.size w5.heap.size _ hb5.size (Nat.le_refl _) (hr4.below hb5) hr5 (Nat.le_trans (textL_len _) (by omega)) (Nat.le_trans (textL_len _) (by omega))).mono ?_
  rintro e w6 ⟨rfl, hb6⟩
  have q6 := below_same q5.1 q5.2 hb6
  rw [show decide (textL (a2 ++ zs k) = textL (a2 ++ zs k)) = true by simp]
  clear ho4 ho5 hr4 hr5 hb4 hb5 hb6 q3 q4 q5
  go_wp2_with fail
  refine (wakes_any _).mono ?_
  rintro e w7 ⟨rfl, hb7⟩
  go_wp2
  go_ret
  exact ⟨rfl, (below_same q6.1 q6.2 hb7).1⟩
set_option maxRecDepth 100000 in
set_option maxHeartbeats 2000000 in
theorem walk10 (a0 : Int) (a1 : Int) (a2 : ByteArray) (a3 : Int) (w : World) (b0 : -9223372036854775808 ≤ a0 ∧ a0 ≤ 9223372036854775807) (b1 : -9223372036854775808 ≤ a1 ∧ a1 ≤ 9223372036854775807) (b2 : a2.size ≤ 140737488351232) (b3 : -9223372036854775808 ≤ a3 ∧ a3 ≤ 9223372036854775807) (h3 : (a1.tmod 3 != 0) = true) (h5 : (a1.tmod 5 == 0) = false) :
    Calls Try.prog 7 #[.int .i64 a0, .int .i64 a1, .string a2, .int .i64 a3] w fun e w' => e = .returned (.bool true) ∧ Below w.heap.size w w' := by
  have m1 := Int.emod_nonneg a0 (show (34359738370 : Int) ≠ 0 by omega)
  have m2 := Int.emod_lt_of_pos a0 (show (0 : Int) < 34359738370 by omega)
  go_enter Try.func7, Try.ntmps7
  go_wp2_with fail
  refine (Within_any _ _ _ (by omega) (by omega) (by omega) (by omega)).mono ?_
  rintro e w' ⟨rfl, rfl⟩
  have hBel : Below w.heap.size w w := Below.refl _ _
  have hBsz : w.heap.size ≤ w.heap.size := Nat.le_refl _
  go_wp2_with fail
  refine (Number_any _ _).mono ?_
  rintro e w1 ⟨v1, rfl, ho1, hb1⟩
  obtain ⟨A1, c1, rfl, _, _⟩ := own_slice ho1
  have hr1 := Reads.of_own ho1
  have q1 := below_same hBel hBsz hb1
  go_wp2_with fail
  refine (rNumber_any _ _).mono ?_
  rintro e w2 ⟨v2, rfl, ho2, hb2⟩
  obtain ⟨A2, c2, rfl, _, _⟩ := own_slice ho2
  have hr2 := Reads.of_own ho2
  have q2 := below_same q1.1 q1.2 hb2
  go_wp2_with fail
  refine (SameByte_any _ _ _ _ _ _ _ _ w1.heap.size w2.heap.size _ hb2.size (Nat.le_refl _) (hr1.below hb2) hr2 (Nat.le_trans (numZ_len _) (by omega)) (Nat.le_trans (numZ_len _) (by omega))).mono ?_
  rintro e w3 ⟨rfl, hb3⟩
  have q3 := below_same q2.1 q2.2 hb3
  rw [show decide (numZ (a0 % 34359738370 - 1) = numZ (a0 % 34359738370 - 1)) = true by simp]
  clear ho1 ho2 hr1 hr2 hb1 hb2 hb3 q1 q2
  go_wp2_with fail
  refine (Text_any _ _).mono ?_
  rintro e w4 ⟨v4, rfl, ho4, hb4⟩
  obtain ⟨A4, c4, rfl, _, _⟩ := own_slice ho4
  have hr4 := Reads.of_own ho4
  have q4 := below_same q3.1 q3.2 hb4
  go_wp2_with fail
  refine (rText_any _ _).mono ?_
  rintro e w5 ⟨v5, rfl, ho5, hb5⟩
  obtain ⟨A5, c5, rfl, _, _⟩ := own_slice ho5
  have hr5 := Reads.of_own ho5
  have q5 := below_same q4.1 q4.2 hb5
  go_wp2_with fail
  refine (SameByte_any _ _ _ _ _ _ _ _ w4.heap.size w5.heap.size _ hb5.size (Nat.le_refl _) (hr4.below hb5) hr5 (Nat.le_trans (textL_len _) (by omega)) (Nat.le_trans (textL_len _) (by omega))).mono ?_
  rintro e w6 ⟨rfl, hb6⟩
  have q6 := below_same q5.1 q5.2 hb6
  rw [show decide (textL a2 = textL a2) = true by simp]
  clear ho4 ho5 hr4 hr5 hb4 hb5 hb6 q3 q4 q5
  go_wp2_with fail
  refine (wakes_any _).mono ?_
  rintro e w7 ⟨rfl, hb7⟩
  go_wp2
  go_ret
  exact ⟨rfl, (below_same q6.1 q6.2 hb7).1⟩
set_option maxRecDepth 100000 in
set_option maxHeartbeats 2000000 in
theorem walk11 (a0 : Int) (a1 : Int) (a2 : ByteArray) (a3 : Int) (w : World) (b0 : -9223372036854775808 ≤ a0 ∧ a0 ≤ 9223372036854775807) (b1 : -9223372036854775808 ≤ a1 ∧ a1 ≤ 9223372036854775807) (b2 : a2.size ≤ 140737488351232) (b3 : -9223372036854775808 ≤ a3 ∧ a3 ≤ 9223372036854775807) (h3 : (a1.tmod 3 != 0) = true) (h5 : (a1.tmod 5 == 0) = true) :
    Calls Try.prog 7 #[.int .i64 a0, .int .i64 a1, .string a2, .int .i64 a3] w fun e w' => e = .returned (.bool true) ∧ Below w.heap.size w w' := by
  have m1 := Int.emod_nonneg a0 (show (34359738370 : Int) ≠ 0 by omega)
  have m2 := Int.emod_lt_of_pos a0 (show (0 : Int) < 34359738370 by omega)
  have m3 := Int.emod_nonneg a3 (show (220 : Int) ≠ 0 by omega)
  have m4 := Int.emod_lt_of_pos a3 (show (0 : Int) < 220 by omega)
  obtain ⟨k, hk⟩ := Int.eq_ofNat_of_zero_le m3
  have Hk := Lib.hid hk
  have hk2 : k ≤ 220 := by omega
  have hmk := fun W => make_zs k hk2 W
  have hcv := fun W => conv_zs k W
  have hzs : (zs k).size ≤ 220 := by rw [zs_size]; exact hk2
  clear hk m3 m4 hk2
  go_enter Try.func7, Try.ntmps7
  go_wp2_with fail
  refine (Within_any _ _ _ (by omega) (by omega) (by omega) (by omega)).mono ?_
  rintro e w' ⟨rfl, rfl⟩
  go_wp2_with fail
  refine (Within_any _ _ _ (by omega) (by omega) (by omega) (by omega)).mono ?_
  rintro e w' ⟨rfl, rfl⟩
  rw [Hk.out]
  go_wp2_with fail
  have hBel : Below w.heap.size w (w.alloc (.cells (madeCells #[.int .u8 0] k) 5)) := (Below.refl _ _).alloc (Nat.le_refl _) _
  have hBsz : w.heap.size ≤ (w.alloc (.cells (madeCells #[.int .u8 0] k) 5)).heap.size := by simp
  generalize w.alloc (.cells (madeCells #[.int .u8 0] k) 5) = wa at *
  clear hmk hcv
  go_wp2_with fail
  refine (Number_any _ _).mono ?_
  rintro e w1 ⟨v1, rfl, ho1, hb1⟩
  obtain ⟨A1, c1, rfl, _, _⟩ := own_slice ho1
  have hr1 := Reads.of_own ho1
  have q1 := below_same hBel hBsz hb1
  go_wp2_with fail
  refine (rNumber_any _ _).mono ?_
  rintro e w2 ⟨v2, rfl, ho2, hb2⟩
  obtain ⟨A2, c2, rfl, _, _⟩ := own_slice ho2
  have hr2 := Reads.of_own ho2
  have q2 := below_same q1.1 q1.2 hb2
  go_wp2_with fail
  refine (SameByte_any _ _ _ _ _ _ _ _ w1.heap.size w2.heap.size _ hb2.size (Nat.le_refl _) (hr1.below hb2) hr2 (Nat.le_trans (numZ_len _) (by omega)) (Nat.le_trans (numZ_len _) (by omega))).mono ?_
  rintro e w3 ⟨rfl, hb3⟩
  have q3 := below_same q2.1 q2.2 hb3
  rw [show decide (numZ (a0 % 34359738370 - 1) = numZ (a0 % 34359738370 - 1)) = true by simp]
  clear ho1 ho2 hr1 hr2 hb1 hb2 hb3 q1 q2
  go_wp2_with fail
  refine (Text_any _ _).mono ?_
  rintro e w4 ⟨v4, rfl, ho4, hb4⟩
  obtain ⟨A4, c4, rfl, _, _⟩ := own_slice ho4
  have hr4 := Reads.of_own ho4
  have q4 := below_same q3.1 q3.2 hb4
  go_wp2_with fail
  refine (rText_any _ _).mono ?_
  rintro e w5 ⟨v5, rfl, ho5, hb5⟩
  obtain ⟨A5, c5, rfl, _, _⟩ := own_slice ho5
  have hr5 := Reads.of_own ho5
  have q5 := below_same q4.1 q4.2 hb5
  go_wp2_with fail
  refine (SameByte_any _ _ _ _ _ _ _ _ w4.heap.size w5.heap.size _ hb5.size (Nat.le_refl _) (hr4.below hb5) hr5 (Nat.le_trans (textL_len _) (by omega)) (Nat.le_trans (textL_len _) (by omega))).mono ?_
  rintro e w6 ⟨rfl, hb6⟩
  have q6 := below_same q5.1 q5.2 hb6
  rw [show decide (textL (a2 ++ zs k) = textL (a2 ++ zs k)) = true by simp]
  clear ho4 ho5 hr4 hr5 hb4 hb5 hb6 q3 q4 q5
  go_wp2_with fail
  refine (wakes_any _).mono ?_
  rintro e w7 ⟨rfl, hb7⟩
  go_wp2
  go_ret
  exact ⟨rfl, (below_same q6.1 q6.2 hb7).1⟩
theorem walk (a0 : Int) (a1 : Int) (a2 : ByteArray) (a3 : Int) (w : World) (b0 : -9223372036854775808 ≤ a0 ∧ a0 ≤ 9223372036854775807) (b1 : -9223372036854775808 ≤ a1 ∧ a1 ≤ 9223372036854775807) (b2 : a2.size ≤ 140737488351232) (b3 : -9223372036854775808 ≤ a3 ∧ a3 ≤ 9223372036854775807) :
    Calls Try.prog 7 #[.int .i64 a0, .int .i64 a1, .string a2, .int .i64 a3] w fun e w' => e = .returned (.bool true) ∧ Below w.heap.size w w' := by
  cases h3 : (a1.tmod 3 != 0) <;> cases h5 : (a1.tmod 5 == 0)
  · exact walk00 a0 a1 a2 a3 w b0 b1 b2 b3 h3 h5
  · exact walk01 a0 a1 a2 a3 w b0 b1 b2 b3 h3 h5
  · exact walk10 a0 a1 a2 a3 w b0 b1 b2 b3 h3 h5
  · exact walk11 a0 a1 a2 a3 w b0 b1 b2 b3 h3 h5

end Go.Proofs.Ytccbidcjdngnhaa.codeWrites
