/- A part of the cases. -/
import Derived.Test.YtokggoojpjhloaaGreatDoorPKWD
namespace Go.Proofs.YtokggoojpjhloaaGreatDoor.playKills
set_option maxRecDepth 1000000
set_option linter.unusedVariables false
theorem nil_0 : at_ (.slice none 0 0) false h0 = true := by kernel_rfl
theorem c_0 (el : Nat) : at_ (sl 0) false (ob el []) = true := by kernel_rfl
theorem c0_0 (el : Nat) : at_ (sl 1) false (ob el [false]) = true := by kernel_rfl
theorem c1_0 (el : Nat) : at_ (sl 1) false (ob el [true]) = true := by kernel_rfl
theorem c00_0 (el : Nat) : at_ (sl 2) false (ob el [false, false]) = true := by kernel_rfl
theorem c01_0 (el : Nat) : at_ (sl 2) false (ob el [false, true]) = true := by kernel_rfl
theorem c10_0 (el : Nat) : at_ (sl 2) false (ob el [true, false]) = true := by kernel_rfl
theorem c11_0 (el : Nat) : at_ (sl 2) false (ob el [true, true]) = true := by kernel_rfl
end Go.Proofs.YtokggoojpjhloaaGreatDoor.playKills
