/- The walk of NeedEdges: the Go text returns true, and writes nothing that was there. -/
import Derived.Test.YtiijhlgeffnpmaaNeedSum
namespace Go.Proofs.Ytiijhlgeffnpmaa.needEdges
open Go.ChangeShapes Go.WideShapes Go.ChangeAt Go.RowKit
set_option linter.unusedVariables false
theorem c1001 : fw 1001 = 4652016104934211584 := by decide +kernel
theorem c1 : fw 1 = 4607182418800017408 := by decide +kernel
theorem c100001 : fw 100001 = 4681608429603651584 := by decide +kernel
theorem cm1 : W true 1 0 = 13830554455654793216 := by decide +kernel
theorem chalf : W false 1 1 = 4602678819172646912 := by decide +kernel
theorem cquarter : W false 1 2 = 4598175219545276416 := by decide +kernel
theorem c2 : fw 2 = 4611686018427387904 := by decide +kernel
theorem c3 : fw 3 = 4613937818241073152 := by decide +kernel
theorem bigN_fw {a b M : Nat} (ha : a < 2 ^ 53) (hb : b < 2 ^ 53) : bigN (fw a) (fw b) M = (decide (a ≤ M) && decide (b ≤ M)) := by
  unfold bigN; rw [wOf_fw ha, wOf_fw hb]
theorem rightN_fw {a b : Nat} (ha : a < 2 ^ 53) (hb : b < 2 ^ 53) : rightN (fw a) (fw b) = (decide (a ≤ 1000) && decide (b ≤ 1000) && !(a == 0 && b == 0)) := by
  unfold rightN; rw [bigN_fw ha hb, nOf_fw ha, nOf_fw hb]
theorem wOf_frac {a k M : Nat} (hj : 0 < k) (hk : k ≤ 1000) (ha : a < 2 ^ 53) (h : a % 2 ^ k ≠ 0) : wOf (W false a k) M = false := by
  rw [wOf_FV (W_FV false ha hk), decide_eq_false]
  rintro ⟨_, _, h3⟩
  have hLP := LP_eq
  rw [U_split (k := k) (by omega), Nat.mul_comm a, Nat.mul_mod_mul_left] at h3
  rcases Nat.mul_eq_zero.1 h3 with h4 | h4
  · have := Nat.two_pow_pos (LP - k); omega
  · exact h h4
theorem wOf_neg {M : Nat} : wOf (W true 1 0) M = false := by
  rw [wOf_FV (W_FV true (M := 1) (k := 0) (by omega) (by omega)), decide_eq_false]
  rintro ⟨h1, _, _⟩
  rcases h1 with h1 | h1
  · cases h1
  · rw [Nat.one_mul] at h1
    have := Nat.two_pow_pos (LP - 0)
    omega
theorem frac_add {a k : Nat} (hk0 : 0 < k) (hk : k ≤ 1000) (ha : a * 2 ^ k + 1 < 2 ^ 53) : FloatKind.f64.format.add (fw a) (W false 1 k) = some (W false (a * 2 ^ k + 1) k) := by
  have hLP := LP_eq
  have hp : 0 < 2 ^ k := Nat.two_pow_pos k
  have h0 : a ≤ a * 2 ^ k := Nat.le_mul_of_pos_right a hp
  refine add_eq (fw_FV (by omega)) (W_FV false (by omega) hk) ha hk ?_
  rw [U_split (k := k) (by omega), Nat.one_mul, Nat.add_mul, Nat.one_mul, Nat.mul_assoc, Nat.mul_comm (2 ^ (LP - k))]
set_option maxHeartbeats 1000000 in
theorem wakes_any (w : World) : Calls Try.prog 13 #[] w fun e w' => e = .returned (.bool true) ∧ w = w' := by
  have h1 : ofW 2 3 2 = 4611686018427387904 := by rw [← c2]; rfl
  have h2 : ofW 2 3 3 = 4613937818241073152 := by rw [← c3]; rfl
  have h3 : rightN 4611686018427387904 4613937818241073152 = true := by rw [← c2, ← c3, rightN_fw (by omega) (by omega)]; rfl
  have h4 : binOp .eql 25 (.complex .f64 4611686018427387904 4613937818241073152) (.complex .f64 4611686018427387904 4613937818241073152) = pure (.bool true) := by
    have e1 : (FloatKind.f64.format.order 4611686018427387904 4611686018427387904 == some .eq) = true := by decide +kernel
    have e2 : (FloatKind.f64.format.order 4613937818241073152 4613937818241073152 == some .eq) = true := by decide +kernel
    simp [binOp, Op.complexOp, Op.Complex.cmp, Op.floatCmp, asBool, e1, e2]
  go_enter Try.func13, Try.ntmps13
  go_wp2_with (first | (go_at_call 9; refine (Of_any _ _ _).mono ?_; rintro e w' ⟨rfl, rfl⟩) | (go_at_call 7; refine (Right_any _ _ _).mono ?_; rintro e w' ⟨rfl, rfl⟩))
  go_ret
  exact ⟨rfl, rfl⟩
set_option maxRecDepth 100000 in
set_option maxHeartbeats 4000000 in
theorem walk (a0 : Int) (a1 : Int) (w : World) (b0 : -9223372036854775808 ≤ a0 ∧ a0 ≤ 9223372036854775807) (b1 : -9223372036854775808 ≤ a1 ∧ a1 ≤ 9223372036854775807) :
    Calls Try.prog 3 #[.int .i64 a0, .int .i64 a1] w fun e w' => e = .returned (.bool true) ∧ Below w.heap.size w w' := by
  have m1 := Int.emod_nonneg a0 (show (1001 : Int) ≠ 0 by omega)
  have m2 := Int.emod_lt_of_pos a0 (show (0 : Int) < 1001 by omega)
  have m3 := Int.emod_nonneg a1 (show (100001 : Int) ≠ 0 by omega)
  have m4 := Int.emod_lt_of_pos a1 (show (0 : Int) < 100001 by omega)
  go_enter Try.func3, Try.ntmps3
  go_wp2_with fail
  refine (Within_any _ _ _ (by omega) (by omega) (by omega) (by omega)).mono ?_
  rintro e w' ⟨rfl, rfl⟩
  go_wp2_with fail
  refine (Within_any _ _ _ (by omega) (by omega) (by omega) (by omega)).mono ?_
  rintro e w' ⟨rfl, rfl⟩
  generalize a0 % 1001 = d at *
  generalize a1 % 100001 = e at *
  clear b0 b1
  obtain ⟨a, rfl⟩ := Int.eq_ofNat_of_zero_le m1
  obtain ⟨b, rfl⟩ := Int.eq_ofNat_of_zero_le m3
  have ha : a ≤ 1000 := by omega
  have hb : b ≤ 100000 := by omega
  have X := ofInt_fw (n := (a : Int)) (by omega)
  have Y := ofInt_fw (n := (b : Int)) (by omega)
  rw [Int.toNat_natCast] at X Y
  have Z0 := fw_zero
  have R1 : rightN (fw a) 0 = decide ((0 : Int) < a) := by
    rw [← Z0, rightN_fw (by omega) (by omega)]
    rcases Nat.eq_zero_or_pos a with h | h
    · subst h; rfl
    · have e1 : (a == 0) = false := by simp; omega
      rw [e1]; simp; omega
  have R2 : rightN 0 (fw a) = decide ((0 : Int) < a) := by
    rw [← Z0, rightN_fw (by omega) (by omega)]
    rcases Nat.eq_zero_or_pos a with h | h
    · subst h; rfl
    · have e1 : (a == 0) = false := by simp; omega
      rw [e1]; simp; omega
  have R3 : rightN (fw a) 4652016104934211584 = false := by rw [← c1001, rightN_fw (by omega) (by omega)]; simp
  have R4 : rightN 4652016104934211584 (fw a) = false := by rw [← c1001, rightN_fw (by omega) (by omega)]; simp
  have R5 : rightN (fw a) 13830554455654793216 = false := by rw [← cm1]; unfold rightN bigN; rw [wOf_neg]; simp
  have A6 := frac_add (a := a) (k := 1) (by omega) (by omega) (by omega)
  have A7 := frac_add (a := a) (k := 2) (by omega) (by omega) (by omega)
  rw [chalf] at A6
  rw [cquarter] at A7
  have R6 : rightN (W false (a * 2 ^ 1 + 1) 1) 4607182418800017408 = false := by unfold rightN bigN; rw [wOf_frac (by omega) (by omega) (by omega) (by omega)]; rfl
  have R7 : rightN 4607182418800017408 (W false (a * 2 ^ 2 + 1) 2) = false := by unfold rightN bigN; rw [wOf_frac (by omega) (by omega) (by omega) (by omega)]; simp
  have M1 : bigN (fw b) (fw a) 100000 = true := by rw [bigN_fw (by omega) (by omega)]; simp; omega
  have M2 : bigN (fw b) 4681608429603651584 100000 = false := by rw [← c100001, bigN_fw (by omega) (by omega)]; simp
  have M3 : bigN 13830554455654793216 (fw b) 100000 = false := by rw [← cm1]; unfold bigN; rw [wOf_neg]; rfl
  have M4 : bigN (fw b) 4602678819172646912 100000 = false := by rw [← chalf]; unfold bigN; rw [wOf_frac (a := 1) (by omega) (by omega) (by omega) (by omega)]; simp
  have M5 : bigN 0 0 100000 = true := by rw [← Z0, bigN_fw (by omega) (by omega)]; rfl
  have M6 : rightN 0 0 = false := by rw [← Z0, rightN_fw (by omega) (by omega)]; rfl
  have M7 : bigN (fw b) 13830554455654793216 100000 = false := by rw [← cm1]; unfold bigN; rw [wOf_neg]; simp
  have O1 : ofW b a b = fw b := by unfold ofW; rw [if_pos (by omega)]; rfl
  have O2 : ofW b a a = fw a := by unfold ofW; rw [if_pos (by omega)]; rfl
  have O3 : ofW (-1) a (-1) = 0 := by unfold ofW; rw [if_neg (by omega)]
  have O4 : ofW (-1) a a = 0 := by unfold ofW; rw [if_neg (by omega)]
  have O5 : ofW a 100001 a = 0 := by unfold ofW; rw [if_neg (by omega)]
  have O6 : ofW a 100001 100001 = 0 := by unfold ofW; rw [if_neg (by omega)]
  have O7 : ofW 0 1 0 = 0 := by rw [← Z0]; rfl
  have O8 : ofW 0 1 1 = fw 1 := rfl
  have P1 : (partN (fw b) (fw a) (fw b) : Int) = b := by unfold partN; rw [M1, if_pos rfl, nOf_fw (by omega)]
  have P2 : (partN (fw b) (fw a) (fw a) : Int) = a := by unfold partN; rw [M1, if_pos rfl, nOf_fw (by omega)]
  have P3 : partN (fw b) 13830554455654793216 (fw b) = 0 := by unfold partN; rw [M7]; rfl
  have P4 : partN (fw b) 13830554455654793216 13830554455654793216 = 0 := by unfold partN; rw [M7]; rfl
  have Z : binOp .eql 25 (.complex .f64 0 0) (.complex .f64 0 0) = pure (.bool true) := by
    have e1 : (FloatKind.f64.format.order 0 0 == some .eq) = true := by decide +kernel
    simp [binOp, Op.complexOp, Op.Complex.cmp, Op.floatCmp, asBool, e1]
  have S1 := fun w => cfw_add (P := Try.prog) (t := 25) (a := b) (b := a) (c := 1) (d := 0) (by omega) (by omega) w
  rw [Z0, c1, Nat.add_zero] at S1
  have L1 : leF (fw b) (fw b) = true := by rw [leF_fw (by omega) (by omega)]; simp
  have L2 : leF (fw a) (fw a) = true := by rw [leF_fw (by omega) (by omega)]; simp
  have L3 : leF (fw (b + 1)) (fw b) = false := by rw [leF_fw (by omega) (by omega)]; simp
  have L4 : leF (fw (a + 1)) (fw a) = false := by rw [leF_fw (by omega) (by omega)]; simp
  have T5 := fun w => run_float_arith (P := Try.prog) w .add 23 .f64 (fw a) 4602678819172646912 _ A6
  have T6 := fun w => run_float_arith (P := Try.prog) w .add 23 .f64 (fw a) 4598175219545276416 _ A7
  have SU := fun A c w hr => Sum_any A 2 c [(b, a), (0, 1)] w.heap.size w (Nat.le_refl _) hr (by omega) (show sA [(b, a), (0, 1)] < _ by unfold sA; simp; omega) (show sB [(b, a), (0, 1)] < _ by unfold sB; simp; omega)
  rw [show sA [(b, a), (0, 1)] = b by unfold sA; simp, show sB [(b, a), (0, 1)] = a + 1 by unfold sB; simp] at SU
  rw [show List.map cv [(b, a), (0, 1)] = [.complex .f64 (fw b) (fw a), .complex .f64 0 (fw 1)] by rw [← Z0]; rfl] at SU
  generalize W false (a * 2 ^ 1 + 1) 1 = r5 at *
  generalize W false (a * 2 ^ 2 + 1) 2 = r25 at *
  generalize fw (b + 1) = y1 at *
  generalize fw (a + 1) = x1 at *
  generalize fw 1 = one at *
  generalize fw a = x at *
  generalize fw b = y at *
  clear A6 A7
  go_wp2_with (first | (go_at_call 7; refine (Right_any _ _ _).mono ?_; rintro e w' ⟨rfl, rfl⟩) | (go_at_call 8; refine (Room_any _ _ _).mono ?_; rintro e w' ⟨rfl, rfl⟩) | (go_at_call 9; refine (Of_any _ _ _).mono ?_; rintro e w' ⟨rfl, rfl⟩) | (go_at_call 10; refine (Parts_any _ _ _).mono ?_; rintro e w' ⟨rfl, rfl⟩) | (go_at_call 11; refine (Fits_any _ _ _ _ _).mono ?_; rintro e w' ⟨rfl, rfl⟩))
  refine (SU _ _ _ (reads_two w _ _ 25)).mono ?_
  rintro e w2 ⟨rfl, hb2⟩
  go_wp2_with (first | (go_at_call 11; refine (Fits_any _ _ _ _ _).mono ?_; rintro e w' ⟨rfl, rfl⟩) | (go_at_call 13; refine (wakes_any _).mono ?_; rintro e w' ⟨rfl, rfl⟩))
  go_ret
  exact ⟨rfl, (below_next (Below.refl _ _) (Nat.le_refl _) _ hb2).1⟩

end Go.Proofs.Ytiijhlgeffnpmaa.needEdges
