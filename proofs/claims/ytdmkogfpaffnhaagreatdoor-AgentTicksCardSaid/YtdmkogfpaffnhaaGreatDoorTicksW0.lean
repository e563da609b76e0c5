/- What the executor finds of AgentTicks: a part of the cases. -/
import Derived.Test.YtdmkogfpaffnhaaGreatDoorTicksWD
namespace Go.Proofs.YtdmkogfpaffnhaaGreatDoor.agentTicks
set_option maxRecDepth 1000000
theorem all0_0 : (([(0, 0)] : List (Nat × Nat)).all fun c0 => chk Tryz.prog c0) = true := by kernel_rfl
theorem all1_0 : (([(1, 1)] : List (Nat × Nat)).all fun c0 => chk Tryz.prog c0) = true := by kernel_rfl
theorem all2_0 : (([(2, 2)] : List (Nat × Nat)).all fun c0 => chk Tryz.prog c0) = true := by kernel_rfl
theorem all3_0 : (([(3, 3)] : List (Nat × Nat)).all fun c0 => chk Tryz.prog c0) = true := by kernel_rfl
theorem all4_0 : (([(4, 4)] : List (Nat × Nat)).all fun c0 => chk Tryz.prog c0) = true := by kernel_rfl
theorem all5_0 : (([(5, 5)] : List (Nat × Nat)).all fun c0 => chk Tryz.prog c0) = true := by kernel_rfl
theorem all6_0 : (([(6, 6)] : List (Nat × Nat)).all fun c0 => chk Tryz.prog c0) = true := by kernel_rfl
end Go.Proofs.YtdmkogfpaffnhaaGreatDoor.agentTicks
