/- What the executor finds of WorldDown, case by case. -/
import Derived.Test.YtbioljbiohdflaaGreatDoorWdB
namespace Go.Proofs.YtbioljbiohdflaaGreatDoor.worldDown
open Go Go.RowKit
set_option maxRecDepth 1000000
noncomputable def cfg (c d : Nat × Nat) : Cfg := ⟨fun _ => true, overW [(8, 20, caseV 108 c), (9, 3, caseV 109 d)], orS cfgS (orS roomS (orS delayS summAll))⟩
noncomputable def at_ (c d : Nat × Nat) : Bool := yes (xcall Tryz.prog (cfg c d) 400 3 [.agg chans.toArray, .chan (some 8), .chan (some 9)] h0)
theorem r00 : at_ (0, 0) (0, 0) = true := by kernel_rfl
theorem r01 : at_ (0, 0) (1, 1) = true := by kernel_rfl
theorem r02 : at_ (0, 0) (2, 2) = true := by kernel_rfl
theorem r10 : at_ (1, 19) (0, 0) = true := by kernel_rfl
theorem r11 : at_ (1, 19) (1, 1) = true := by kernel_rfl
theorem r12 : at_ (1, 19) (2, 2) = true := by kernel_rfl
end Go.Proofs.YtbioljbiohdflaaGreatDoor.worldDown
