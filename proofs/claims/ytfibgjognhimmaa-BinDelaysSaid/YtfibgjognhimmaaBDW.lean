/- The walk of BinDelays. -/
import Derived.Test.YtfibgjognhimmaaBinDelays
import Derived.Test.YtfibgjognhimmaaAllSum
namespace Go.Proofs.Ytfibgjognhimmaa.binDelays
open Go.ChangeShapes Go.WideShapes Go.ChangeAt Go.RowKit
set_option linter.unusedVariables false
theorem facts (k u q : Int) (hk : -9223372036854775808 ≤ k ∧ k ≤ 9223372036854775807) : 0 ≤ delayI k u q ∧ delayI k u q ≤ 9223372036854775807 ∧ delayI k u q ≤ max k 0 ∧ delayI k (u + 1) q ≤ delayI k u q ∧ ((k < 1 ∨ q < 1) ∨ (delayI k 0 q = k ∧ delayI k q q = 0)) := by
  unfold delayI
  refine ⟨?_, ?_, ?_, ?_, ?_⟩ <;> (repeat' split) <;> omega
set_option maxHeartbeats 4000000 in
theorem walk (a0 : Int) (a1 : Int) (a2 : Int) (a3 : Int) (w : World) (b0 : -9223372036854775808 ≤ a0 ∧ a0 ≤ 9223372036854775807) (b1 : -9223372036854775808 ≤ a1 ∧ a1 ≤ 9223372036854775807) (b2 : -9223372036854775808 ≤ a2 ∧ a2 ≤ 9223372036854775807) (b3 : -9223372036854775808 ≤ a3 ∧ a3 ≤ 9223372036854775807) :
    Calls Try.prog 8 #[.int .i64 a0, .int .i64 a1, .int .i64 a2, .int .i64 a3] w fun e w' => e = .returned (.bool true) ∧ Below w.heap.size w w' := by
  obtain ⟨f1, f2, f3, f4, f5⟩ := facts (a0 % 100 - 2) (a1 % 1100) (a2 % 1000 - 1) (by omega)
  obtain ⟨g1, g2, g3, g4, g5⟩ := facts a0 (a1 % 1073741824) (a2 % 1073741824) b0
  rcases f5 with (f5 | f5) | f5 <;> rcases g5 with (g5 | g5) | g5
  all_goals
    go_enter Try.func8, Try.ntmps8
    go_wp2_with (first | (go_at_call 26; refine (Within_any _ _ _ (by omega) (by omega) (by omega) (by omega)).mono ?_; rintro e w' ⟨rfl, rfl⟩) | (go_at_call 49; refine (Delay_any _ _ _ _ (by omega) (by omega) (by omega)).mono ?_; rintro e w' ⟨rfl, rfl⟩) | (go_at_call 50; refine (rDelay_any _ _ _ _ (by omega) (by omega) (by omega)).mono ?_; rintro e w' ⟨rfl, rfl⟩) | (go_at_call 51; refine (wakes_51.2.2.2 _).mono ?_; rintro e w' ⟨rfl, hbel⟩))
    all_goals
      go_ret
      exact ⟨rfl, hbel⟩
end Go.Proofs.Ytfibgjognhimmaa.binDelays
