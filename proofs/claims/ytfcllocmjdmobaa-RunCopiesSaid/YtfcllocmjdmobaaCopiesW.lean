/- The walk of RunCopies: the Go text returns true, and writes nothing that was there. -/
import Derived.Test.YtfcllocmjdmobaaWithin
namespace Go.Proofs.Ytfcllocmjdmobaa.runCopies
open Go.ChangeShapes Go.WideShapes Go.ChangeAt Go.RowKit
set_option linter.unusedVariables false
set_option maxRecDepth 100000 in
set_option maxHeartbeats 1000000 in
theorem walk (a0 : Int) (a1 : Int) (w : World) (b0 : -9223372036854775808 ≤ a0 ∧ a0 ≤ 9223372036854775807) (b1 : -9223372036854775808 ≤ a1 ∧ a1 ≤ 9223372036854775807) :
    Calls Try.prog 3 #[.int .i64 a0, .int .i64 a1] w fun e w' => e = .returned (.bool true) ∧ Below w.heap.size w w' := by
  have m1 := Int.emod_nonneg a0 (show (100 : Int) ≠ 0 by omega)
  have m2 := Int.emod_lt_of_pos a0 (show (0 : Int) < 100 by omega)
  have m3 := Int.emod_nonneg a1 (show (100 : Int) ≠ 0 by omega)
  have m4 := Int.emod_lt_of_pos a1 (show (0 : Int) < 100 by omega)
  go_enter Try.func3, Try.ntmps3
  go_wp2_with fail
  refine (Within_any _ _ _ (by omega) (by omega) (by omega) (by omega)).mono ?_
  rintro e w' ⟨rfl, rfl⟩
  go_wp2_with fail
  refine (Within_any _ _ _ (by omega) (by omega) (by omega) (by omega)).mono ?_
  rintro e w' ⟨rfl, rfl⟩
  generalize a0 % 100 = d at *
  generalize a1 % 100 = k at *
  clear b0 b1
  go_wp2
  repeat ((first | go_end0 | go_ret3 | go_quiet (fail)); go_wp2)
  go_ret
  exact ⟨rfl, by repeat (first | exact Below.refl _ _ | refine Below.drew ?_ | refine below_drewN ?_ _ | refine Below.alloc ?_ (by first | exact Nat.le_refl _ | (simp; done) | (simp; omega)) _ | refine Below.setCell ?_ (by first | exact Nat.le_refl _ | (simp; done) | (simp; omega)) _)⟩

end Go.Proofs.Ytfcllocmjdmobaa.runCopies
