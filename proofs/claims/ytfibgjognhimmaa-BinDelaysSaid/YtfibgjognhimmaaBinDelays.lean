/- The walk of BinDelays: bin.Delay and the plain answer's are one function of numbers; the rest is arithmetic. -/
import Derived.Test.YtfibgjognhimmaaWithin
namespace Go.Proofs.Ytfibgjognhimmaa.binDelays
open Go.ChangeShapes Go.WideShapes Go.ChangeAt Go.RowKit

def delayI (k u q : Int) : Int := if k < 1 ∨ q < 1 then 0 else if 2 * u ≤ q then k else if 4 * u ≤ 3 * q then k / 2 else 0
set_option maxHeartbeats 400000 in
theorem tq_any (n : Int) (w : World) (h0 : 0 ≤ n) (h1 : n ≤ 4294967296) :
    Calls Try.prog 78 #[.int .i64 n] w fun e w' => e = .returned (.int .i64 (3 * n / 4)) ∧ w = w' := by
  go_enter Try.func78, Try.ntmps78
  go_wp2
  all_goals
    go_ret
    exact ⟨ret_int (by omega), rfl⟩
set_option maxHeartbeats 800000 in
theorem Delay_any (k u q : Int) (w : World) (hk : -9223372036854775808 ≤ k ∧ k ≤ 9223372036854775807) (_hu : -4294967296 ≤ u ∧ u ≤ 4294967296) (hq : -4294967296 ≤ q ∧ q ≤ 4294967296) :
    Calls Try.prog 49 #[.int .i64 k, .int .i64 u, .int .i64 q] w fun e w' => e = .returned (.int .i64 (delayI k u q)) ∧ w = w' := by
  go_enter Try.func49, Try.ntmps49
  go_wp2_with (go_at_call 78; refine (tq_any _ _ (by omega) (by omega)).mono ?_; rintro e w' ⟨rfl, rfl⟩)
  all_goals
    go_ret
    exact ⟨ret_int (by unfold delayI; (repeat' split) <;> omega), rfl⟩
set_option maxHeartbeats 800000 in
theorem rDelay_any (k u q : Int) (w : World) (hk : -9223372036854775808 ≤ k ∧ k ≤ 9223372036854775807) (_hu : -4294967296 ≤ u ∧ u ≤ 4294967296) (hq : -4294967296 ≤ q ∧ q ≤ 4294967296) :
    Calls Try.prog 50 #[.int .i64 k, .int .i64 u, .int .i64 q] w fun e w' => e = .returned (.int .i64 (delayI k u q)) ∧ w = w' := by
  go_enter Try.func50, Try.ntmps50
  go_wp2
  all_goals
    go_ret
    exact ⟨ret_int (by unfold delayI; (repeat' split) <;> omega), rfl⟩
end Go.Proofs.Ytfibgjognhimmaa.binDelays
