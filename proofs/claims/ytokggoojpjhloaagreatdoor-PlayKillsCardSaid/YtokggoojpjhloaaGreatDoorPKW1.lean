/- A part of the cases. -/
import Derived.Test.YtokggoojpjhloaaGreatDoorPKWD
namespace Go.Proofs.YtokggoojpjhloaaGreatDoor.playKills
set_option maxRecDepth 1000000
set_option linter.unusedVariables false
theorem c000_0 (el : Nat) : at_ (sl 3) false (ob el [false, false, false]) = true := by kernel_rfl
theorem c001_0 (el : Nat) : at_ (sl 3) false (ob el [false, false, true]) = true := by kernel_rfl
theorem c010_0 (el : Nat) : at_ (sl 3) false (ob el [false, true, false]) = true := by kernel_rfl
theorem c011_0 (el : Nat) : at_ (sl 3) false (ob el [false, true, true]) = true := by kernel_rfl
theorem c100_0 (el : Nat) : at_ (sl 3) false (ob el [true, false, false]) = true := by kernel_rfl
theorem c101_0 (el : Nat) : at_ (sl 3) false (ob el [true, false, true]) = true := by kernel_rfl
theorem c110_0 (el : Nat) : at_ (sl 3) false (ob el [true, true, false]) = true := by kernel_rfl
theorem c111_0 (el : Nat) : at_ (sl 3) false (ob el [true, true, true]) = true := by kernel_rfl
end Go.Proofs.YtokggoojpjhloaaGreatDoor.playKills
