/- A part of the cases. -/
import Derived.Test.YtokggoojpjhloaaGreatDoorPKWD
namespace Go.Proofs.YtokggoojpjhloaaGreatDoor.playKills
set_option maxRecDepth 1000000
set_option linter.unusedVariables false
theorem c1000_1 (el M : Nat) : at_ (sl (M + 4)) true (ob el [true, false, false, false]) = true := by kernel_rfl
theorem c1001_1 (el M : Nat) : at_ (sl (M + 4)) true (ob el [true, false, false, true]) = true := by kernel_rfl
theorem c1010_1 (el M : Nat) : at_ (sl (M + 4)) true (ob el [true, false, true, false]) = true := by kernel_rfl
theorem c1011_1 (el M : Nat) : at_ (sl (M + 4)) true (ob el [true, false, true, true]) = true := by kernel_rfl
theorem c1100_1 (el M : Nat) : at_ (sl (M + 4)) true (ob el [true, true, false, false]) = true := by kernel_rfl
theorem c1101_1 (el M : Nat) : at_ (sl (M + 4)) true (ob el [true, true, false, true]) = true := by kernel_rfl
theorem c1110_1 (el M : Nat) : at_ (sl (M + 4)) true (ob el [true, true, true, false]) = true := by kernel_rfl
theorem c1111_1 (el M : Nat) : at_ (sl (M + 4)) true (ob el [true, true, true, true]) = true := by kernel_rfl
end Go.Proofs.YtokggoojpjhloaaGreatDoor.playKills
