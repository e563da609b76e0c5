/- What the executor finds of AgentTicks: a part of the cases. -/
import Derived.Test.YtdmkogfpaffnhaaGreatDoorTicksWD
namespace Go.Proofs.YtdmkogfpaffnhaaGreatDoor.agentTicks
set_option maxRecDepth 1000000
theorem all7_0 : (([(7, 7)] : List (Nat × Nat)).all fun c0 => chk Tryz.prog c0) = true := by kernel_rfl
theorem all8_0 : (([(8, 8)] : List (Nat × Nat)).all fun c0 => chk Tryz.prog c0) = true := by kernel_rfl
theorem all9_0 : (([(9, 9)] : List (Nat × Nat)).all fun c0 => chk Tryz.prog c0) = true := by kernel_rfl
theorem all10_0 : (([(10, 10)] : List (Nat × Nat)).all fun c0 => chk Tryz.prog c0) = true := by kernel_rfl
theorem all11_0 : (([(11, 11)] : List (Nat × Nat)).all fun c0 => chk Tryz.prog c0) = true := by kernel_rfl
theorem all12_0 : (([(12, 12)] : List (Nat × Nat)).all fun c0 => chk Tryz.prog c0) = true := by kernel_rfl
theorem all13_0 : (([(13, 13)] : List (Nat × Nat)).all fun c0 => chk Tryz.prog c0) = true := by kernel_rfl
end Go.Proofs.YtdmkogfpaffnhaaGreatDoor.agentTicks
