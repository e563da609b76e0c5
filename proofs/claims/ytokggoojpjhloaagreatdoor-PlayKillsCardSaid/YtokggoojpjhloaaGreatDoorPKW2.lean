/- A part of the cases. -/
import Derived.Test.YtokggoojpjhloaaGreatDoorPKWD
namespace Go.Proofs.YtokggoojpjhloaaGreatDoor.playKills
set_option maxRecDepth 1000000
set_option linter.unusedVariables false
theorem c0000_0 (el M : Nat) : at_ (sl (M + 4)) false (ob el [false, false, false, false]) = true := by kernel_rfl
theorem c0001_0 (el M : Nat) : at_ (sl (M + 4)) false (ob el [false, false, false, true]) = true := by kernel_rfl
theorem c0010_0 (el M : Nat) : at_ (sl (M + 4)) false (ob el [false, false, true, false]) = true := by kernel_rfl
theorem c0011_0 (el M : Nat) : at_ (sl (M + 4)) false (ob el [false, false, true, true]) = true := by kernel_rfl
theorem c0100_0 (el M : Nat) : at_ (sl (M + 4)) false (ob el [false, true, false, false]) = true := by kernel_rfl
theorem c0101_0 (el M : Nat) : at_ (sl (M + 4)) false (ob el [false, true, false, true]) = true := by kernel_rfl
theorem c0110_0 (el M : Nat) : at_ (sl (M + 4)) false (ob el [false, true, true, false]) = true := by kernel_rfl
theorem c0111_0 (el M : Nat) : at_ (sl (M + 4)) false (ob el [false, true, true, true]) = true := by kernel_rfl
end Go.Proofs.YtokggoojpjhloaaGreatDoor.playKills
