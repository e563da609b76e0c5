/- The walk of RunWays: the Go text returns true, and writes nothing that was there. -/
import Derived.Test.YtfcllocmjdmobaaWithin
namespace Go.Proofs.Ytfcllocmjdmobaa.runWays
open Go.ChangeShapes Go.WideShapes Go.ChangeAt Go.RowKit
set_option linter.unusedVariables false
set_option maxRecDepth 100000 in
set_option maxHeartbeats 40000000 in
theorem walk (a0 : Int) (a1 : Int) (a2 : Int) (w : World) (b0 : -9223372036854775808 ≤ a0 ∧ a0 ≤ 9223372036854775807) (b1 : -9223372036854775808 ≤ a1 ∧ a1 ≤ 9223372036854775807) (b2 : -9223372036854775808 ≤ a2 ∧ a2 ≤ 9223372036854775807) :
    Calls Try.prog 5 #[.int .i64 a0, .int .i64 a1, .int .i64 a2] w fun e w' => e = .returned (.bool true) ∧ Below w.heap.size w w' := by
  have m1 := Int.emod_nonneg a2 (show (1000 : Int) ≠ 0 by omega)
  have m2 := Int.emod_lt_of_pos a2 (show (0 : Int) < 1000 by omega)
  have m3 := Int.emod_nonneg a0 (show (2 : Int) ≠ 0 by omega)
  have m4 := Int.emod_lt_of_pos a0 (show (0 : Int) < 2 by omega)
  have hf : a0 % 2 = 0 ∨ a0 % 2 = 1 := by omega
  have hs : (a1.tmod 2 == 0) = true ∨ (a1.tmod 2 == 0) = false := by cases (a1.tmod 2 == 0) <;> simp
  have hd : ∃ d, a2 % 1000 = d ∧ 0 ≤ d ∧ d < 1000 := ⟨_, rfl, m1, m2⟩
  obtain ⟨d, hd, d1, d2⟩ := hd
  have Hd := Lib.hid hd
  clear hd m1 m2 m3 m4
  rcases hf with hf | hf <;> rcases hs with hs | hs <;> by_cases hd0 : 0 < d
  all_goals
    go_enter Try.func5, Try.ntmps5
    go_wp2_with fail
    refine (Within_any _ _ _ (by omega) (by omega) (by omega) (by omega)).mono ?_
    rintro e w' ⟨rfl, rfl⟩
    rw [Hd.out]
    go_wp2_with (first | (go_at_call 15; refine (Within_any _ _ _ (by omega) (by omega) (by omega) (by omega)).mono ?_; rintro e w' ⟨rfl, rfl⟩) | go_in)
    repeat ((first | go_end0 | go_ret3 | go_quiet (fail)); go_wp2_with (first | (go_at_call 15; refine (Within_any _ _ _ (by omega) (by omega) (by omega) (by omega)).mono ?_; rintro e w' ⟨rfl, rfl⟩) | go_in))
    go_ret
    exact ⟨rfl, by repeat (first | exact Below.refl _ _ | refine Below.drew ?_ | refine below_drewN ?_ _ | refine Below.alloc ?_ (by first | exact Nat.le_refl _ | (simp; done) | (simp; omega)) _ | refine Below.setCell ?_ (by first | exact Nat.le_refl _ | (simp; done) | (simp; omega)) _)⟩

end Go.Proofs.Ytfcllocmjdmobaa.runWays
