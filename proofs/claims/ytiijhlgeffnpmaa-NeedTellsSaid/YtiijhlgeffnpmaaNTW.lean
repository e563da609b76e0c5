/- The walk of NeedTells: the Go text returns true, and writes nothing that was there. -/
import Derived.Test.YtiijhlgeffnpmaaNeedRef
namespace Go.Proofs.Ytiijhlgeffnpmaa.needTells
open Go.ChangeShapes Go.WideShapes Go.ChangeAt Go.RowKit
set_option linter.unusedVariables false
set_option maxRecDepth 100000 in
set_option maxHeartbeats 4000000 in
theorem z_any (a0 a1 a2 : Int) (w : World) (b0 : -9223372036854775808 ≤ a0 ∧ a0 ≤ 9223372036854775807) (b1 : -9223372036854775808 ≤ a1 ∧ a1 ≤ 9223372036854775807) (b2 : -9223372036854775808 ≤ a2 ∧ a2 ≤ 9223372036854775807) :
    Calls Try.prog 14 #[.int .i64 a0, .int .i64 a1, .int .i64 a2] w fun e w' => ∃ X Y, e = .returned (.complex .f64 X Y) ∧ Below w.heap.size w w' := by
  have m0 := Int.emod_nonneg a0 (show (1002 : Int) ≠ 0 by omega)
  have m1 := Int.emod_nonneg a1 (show (1002 : Int) ≠ 0 by omega)
  have m2 := Int.emod_lt_of_pos a1 (show (0 : Int) < 1002 by omega)
  have hq := Int.emod_nonneg a2 (show (12 : Int) ≠ 0 by omega)
  have hW0 := fun w => Within_any a0 1002 w b0.1 b0.2 (by omega) (by omega)
  have hW1 := fun w => Within_any a1 1002 w b1.1 b1.2 (by omega) (by omega)
  have hW2 := fun w => Within_any a2 12 w b2.1 b2.2 (by omega) (by omega)
  have hW3 := fun w => Within_any a0 200000 w b0.1 b0.2 (by omega) (by omega)
  obtain ⟨y, hy⟩ := Int.eq_ofNat_of_zero_le m1
  have A6 := needEdges.frac_add (a := y) (k := 1) (by omega) (by omega) (by omega)
  rw [needEdges.chalf] at A6
  have T5 := fun w => run_float_arith (P := Try.prog) w .add 23 .f64 (fw y) 4602678819172646912 _ A6
  have hY := ofInt_fw (n := (y : Int)) (by omega)
  rw [Int.toNat_natCast] at hY
  obtain ⟨r8, h8⟩ := div8 a1 b1
  have T8 := fun w => run_float_arith (P := Try.prog) w .quo 23 .f64 _ _ _ h8
  obtain ⟨r0, h0, hd⟩ := mul0 a1 b1
  have T0 := fun w => run_float_arith (P := Try.prog) w .mul 23 .f64 _ _ _ h0
  obtain ⟨rn, T9⟩ := run_nan (P := Try.prog) (t := 23) hd w
  rw [hy] at hW1
  generalize hX : a0 % 1002 = x at *
  generalize a2 % 12 = q at *
  generalize W false (y * 2 ^ 1 + 1) 1 = r5 at *
  have hneg : ∀ w, (Op.unary .neg (.float .f64 (floatOfInt .f64 x))).run Try.prog w = .ok (.float .f64 (Op.negFloat .f64 (floatOfInt .f64 x))) w := fun w => rfl
  clear m0 m1 m2 A6 h8 h0 hd hy hX
  generalize fw y = Y at *
  have hcase : q = 0 ∨ q = 1 ∨ q = 2 ∨ q = 3 ∨ q = 4 ∨ q = 5 ∨ q = 6 ∨ 6 < q := by omega
  rcases hcase with rfl | rfl | rfl | rfl | rfl | rfl | rfl | hq6
  all_goals
    go_enter Try.func14, Try.ntmps14
    go_wp2_with fail
    refine (hW0 _).mono ?_
    rintro e w' ⟨rfl, rfl⟩
    go_wp2_with fail
    refine (hW1 _).mono ?_
    rintro e w' ⟨rfl, rfl⟩
    go_wp2_with fail
    refine (hW2 _).mono ?_
    rintro e w' ⟨rfl, rfl⟩
    first
      | (go_wp2_with fail; go_ret; exact ⟨_, _, rfl, by first | exact Below.refl _ _ | exact Below.drew (Below.refl _ _)⟩)
      | (go_wp2_with fail; refine (hW3 _).mono ?_; rintro e w' ⟨rfl, rfl⟩; go_wp2_with fail; go_ret; exact ⟨_, _, rfl, Below.refl _ _⟩)

theorem leF_refl (n : Nat) (h : n < 2 ^ 53) : (FloatKind.f64.format.order (fw n) (fw n) == some .eq) = true := by
  rw [o_eql (fw_FV h) (fw_FV h)]; simp
theorem eq_same {x y : Nat} (h1 : (FloatKind.f64.format.order x x == some .eq) = true) (h2 : (FloatKind.f64.format.order y y == some .eq) = true) : binOp .eql 25 (.complex .f64 x y) (.complex .f64 x y) = pure (.bool true) := by
  simp [binOp, Op.complexOp, Op.Complex.cmp, Op.floatCmp, asBool, h1, h2]
set_option maxRecDepth 100000 in
set_option maxHeartbeats 8000000 in
/-- The last part, over any numbers m, n. -/
theorem walk (a0 : Int) (a1 : Int) (a2 : Int) (a3 : Int) (a4 : Int) (a5 : Int) (a6 : Int) (a7 : Int) (w : World) (b0 : -9223372036854775808 ≤ a0 ∧ a0 ≤ 9223372036854775807) (b1 : -9223372036854775808 ≤ a1 ∧ a1 ≤ 9223372036854775807) (b2 : -9223372036854775808 ≤ a2 ∧ a2 ≤ 9223372036854775807) (b3 : -9223372036854775808 ≤ a3 ∧ a3 ≤ 9223372036854775807) (b4 : -9223372036854775808 ≤ a4 ∧ a4 ≤ 9223372036854775807) (b5 : -9223372036854775808 ≤ a5 ∧ a5 ≤ 9223372036854775807) (b6 : -9223372036854775808 ≤ a6 ∧ a6 ≤ 9223372036854775807) (b7 : -9223372036854775808 ≤ a7 ∧ a7 ≤ 9223372036854775807) :
    Calls Try.prog 4 #[.int .i64 a0, .int .i64 a1, .int .i64 a2, .int .i64 a3, .int .i64 a4, .int .i64 a5, .int .i64 a6, .int .i64 a7] w fun e w' => e = .returned (.bool true) ∧ Below w.heap.size w w' := by
  have hW6 := fun w => Within_any a6 100003 w b6.1 b6.2 (by omega) (by omega)
  have hW7 := fun w => Within_any a7 100003 w b7.1 b7.2 (by omega) (by omega)
  have p1 := Int.emod_nonneg a6 (show (100003 : Int) ≠ 0 by omega)
  have p2 := Int.emod_lt_of_pos a6 (show (0 : Int) < 100003 by omega)
  have p3 := Int.emod_nonneg a7 (show (100003 : Int) ≠ 0 by omega)
  have p4 := Int.emod_lt_of_pos a7 (show (0 : Int) < 100003 by omega)
  generalize a6 % 100003 = c6 at *
  generalize a7 % 100003 = c7 at *
  obtain ⟨M, N, hMN⟩ : ∃ M N : Int, (a2.tmod 5 ≠ 4 ∧ M = c6 - 1 ∧ N = c7 - 1) ∨ (a2.tmod 5 = 4 ∧ M = a6 ∧ N = a7) := by
    by_cases h : a2.tmod 5 = 4
    · exact ⟨a6, a7, .inr ⟨h, rfl, rfl⟩⟩
    · exact ⟨c6 - 1, c7 - 1, .inl ⟨h, rfl, rfl⟩⟩
  have hO := fun w => Of_any M N w
  have hz : (FloatKind.f64.format.order 0 0 == some .eq) = true := by decide +kernel
  have hZ : binOp .eql 25 (.complex .f64 0 0) (.complex .f64 0 0) = pure (.bool true) := eq_same hz hz
  have hin : ((0 ≤ M ∧ M ≤ 100000) ∧ (0 ≤ N ∧ N ≤ 100000) ∧ ofW M N M = floatOfInt .f64 M ∧ ofW M N N = floatOfInt .f64 N ∧ binOp .eql 25 (.complex .f64 (floatOfInt .f64 M) (floatOfInt .f64 N)) (.complex .f64 (floatOfInt .f64 M) (floatOfInt .f64 N)) = pure (.bool true)) ∨
      (ofW M N M = 0 ∧ ofW M N N = 0 ∧ (¬ 0 ≤ M ∨ (0 ≤ M ∧ ¬ M ≤ 100000) ∨ ((0 ≤ M ∧ M ≤ 100000) ∧ ¬ 0 ≤ N) ∨ ((0 ≤ M ∧ M ≤ 100000) ∧ 0 ≤ N ∧ ¬ N ≤ 100000))) := by
    by_cases h : (0 ≤ M ∧ M ≤ 100000) ∧ 0 ≤ N ∧ N ≤ 100000
    · left
      have e1 := ofInt_fw (n := M) h.1.1
      have e2 := ofInt_fw (n := N) h.2.1
      refine ⟨h.1, h.2, ?_, ?_, ?_⟩
      · unfold ofW; rw [if_pos h, e1]
      · unfold ofW; rw [if_pos h, e2]
      · rw [e1, e2]; exact eq_same (leF_refl _ (by omega)) (leF_refl _ (by omega))
    · right
      refine ⟨by unfold ofW; rw [if_neg h], by unfold ofW; rw [if_neg h], by omega⟩
  go_enter Try.func4, Try.ntmps4
  go_wp2_with fail
  refine (z_any a0 a1 a2 _ b0 b1 b2).mono ?_
  rintro e w1 ⟨X, Y, rfl, hb1⟩
  go_wp2_with fail
  refine (z_any a3 a4 a5 _ b3 b4 b5).mono ?_
  rintro e w2 ⟨X2, Y2, rfl, hb2⟩
  have hbel : Below w.heap.size w w2 := (below_same hb1 hb1.size hb2).1
  clear hb1 hb2
  have hs : bigN X Y 100000 = false ∨ (bigN X Y 100000 = true ∧ bigN X2 Y2 100000 = false) ∨ (bigN X Y 100000 = true ∧ bigN X2 Y2 100000 = true) := by cases bigN X Y 100000 <;> cases bigN X2 Y2 100000 <;> simp
  rcases hMN with ⟨h5, rfl, rfl⟩ | ⟨h5, rfl, rfl⟩ <;> rcases hin with ⟨⟨i1, i2⟩, ⟨i3, i4⟩, o1, o2, o3⟩ | ⟨o1, o2, i1 | ⟨i1, i2⟩ | ⟨⟨i1, i2⟩, i3⟩ | ⟨⟨i1, i2⟩, i3, i4⟩⟩ <;> rcases hs with s1 | ⟨s1, s2⟩ | ⟨s1, s2⟩
  all_goals
    go_wp2_with (first | (go_at_call 15; refine (rParts_any _ _ _).mono ?_; rintro e w' ⟨rfl, rfl⟩) | (go_at_call 16; refine (rNeed_any _ _ _).mono ?_; rintro e w' ⟨rfl, rfl⟩) | (go_at_call 7; refine (Right_any _ _ _).mono ?_; rintro e w' ⟨rfl, rfl⟩) | (go_at_call 8; refine (Room_any _ _ _).mono ?_; rintro e w' ⟨rfl, rfl⟩) | (go_at_call 10; refine (Parts_any _ _ _).mono ?_; rintro e w' ⟨rfl, rfl⟩) | (go_at_call 9; refine (hO _).mono ?_; rintro e w' ⟨rfl, rfl⟩) | (go_at_call 11; refine (Fits_any _ _ _ _ _).mono ?_; rintro e w' ⟨rfl, rfl⟩) | (go_at_call 17; refine (rFits_any _ _ _ _ _).mono ?_; rintro e w' ⟨rfl, rfl⟩) | (go_at_call 13; refine (needEdges.wakes_any _).mono ?_; rintro e w' ⟨rfl, rfl⟩))
    try (refine (hW6 _).mono ?_; rintro e w' ⟨rfl, rfl⟩; go_wp2_with fail; refine (hW7 _).mono ?_; rintro e w' ⟨rfl, rfl⟩; go_wp2_with (first | (go_at_call 15; refine (rParts_any _ _ _).mono ?_; rintro e w' ⟨rfl, rfl⟩) | (go_at_call 16; refine (rNeed_any _ _ _).mono ?_; rintro e w' ⟨rfl, rfl⟩) | (go_at_call 7; refine (Right_any _ _ _).mono ?_; rintro e w' ⟨rfl, rfl⟩) | (go_at_call 8; refine (Room_any _ _ _).mono ?_; rintro e w' ⟨rfl, rfl⟩) | (go_at_call 10; refine (Parts_any _ _ _).mono ?_; rintro e w' ⟨rfl, rfl⟩) | (go_at_call 9; refine (hO _).mono ?_; rintro e w' ⟨rfl, rfl⟩) | (go_at_call 11; refine (Fits_any _ _ _ _ _).mono ?_; rintro e w' ⟨rfl, rfl⟩) | (go_at_call 17; refine (rFits_any _ _ _ _ _).mono ?_; rintro e w' ⟨rfl, rfl⟩) | (go_at_call 13; refine (needEdges.wakes_any _).mono ?_; rintro e w' ⟨rfl, rfl⟩)))
    go_ret
    exact ⟨ret_bool (by first | rfl | (simp; done)), hbel⟩

end Go.Proofs.Ytiijhlgeffnpmaa.needTells
