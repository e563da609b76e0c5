/- What the executor finds of AgentBoxes: a part of the cases. -/
import Derived.Test.YtdmkogfpaffnhaaGreatDoorBoxesWD
namespace Go.Proofs.YtdmkogfpaffnhaaGreatDoor.agentBoxes
set_option maxRecDepth 1000000
theorem all0_0 : (([(0, 0)] : List (Nat × Nat)).all fun c0 => ([(0, 0)] : List (Nat × Nat)).all fun c1 => chk Tryz.prog c0 c1) = true := by kernel_rfl
theorem all0_1 : (([(0, 0)] : List (Nat × Nat)).all fun c0 => ([(1, 1)] : List (Nat × Nat)).all fun c1 => chk Tryz.prog c0 c1) = true := by kernel_rfl
theorem all0_2 : (([(0, 0)] : List (Nat × Nat)).all fun c0 => ([(2, 2)] : List (Nat × Nat)).all fun c1 => chk Tryz.prog c0 c1) = true := by kernel_rfl
theorem all0_3 : (([(0, 0)] : List (Nat × Nat)).all fun c0 => ([(3, 3)] : List (Nat × Nat)).all fun c1 => chk Tryz.prog c0 c1) = true := by kernel_rfl
theorem all0_4 : (([(0, 0)] : List (Nat × Nat)).all fun c0 => ([(4, 4)] : List (Nat × Nat)).all fun c1 => chk Tryz.prog c0 c1) = true := by kernel_rfl
end Go.Proofs.YtdmkogfpaffnhaaGreatDoor.agentBoxes
