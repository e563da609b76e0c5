/- A part of the cases. -/
import Derived.Test.YtokggoojpjhloaaGreatDoorPKWD
namespace Go.Proofs.YtokggoojpjhloaaGreatDoor.playKills
set_option maxRecDepth 1000000
set_option linter.unusedVariables false
theorem nil_1 : at_ (.slice none 0 0) true h0 = true := by kernel_rfl
theorem c_1 (el : Nat) : at_ (sl 0) true (ob el []) = true := by kernel_rfl
theorem c0_1 (el : Nat) : at_ (sl 1) true (ob el [false]) = true := by kernel_rfl
theorem c1_1 (el : Nat) : at_ (sl 1) true (ob el [true]) = true := by kernel_rfl
theorem c00_1 (el : Nat) : at_ (sl 2) true (ob el [false, false]) = true := by kernel_rfl
theorem c01_1 (el : Nat) : at_ (sl 2) true (ob el [false, true]) = true := by kernel_rfl
theorem c10_1 (el : Nat) : at_ (sl 2) true (ob el [true, false]) = true := by kernel_rfl
theorem c11_1 (el : Nat) : at_ (sl 2) true (ob el [true, true]) = true := by kernel_rfl
end Go.Proofs.YtokggoojpjhloaaGreatDoor.playKills
