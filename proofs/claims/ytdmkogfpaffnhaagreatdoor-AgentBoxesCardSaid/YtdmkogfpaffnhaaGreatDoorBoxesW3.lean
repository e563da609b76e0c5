/- What the executor finds of AgentBoxes: a part of the cases. -/
import Derived.Test.YtdmkogfpaffnhaaGreatDoorBoxesWD
namespace Go.Proofs.YtdmkogfpaffnhaaGreatDoor.agentBoxes
set_option maxRecDepth 1000000
theorem all3_0 : (([(3, 3)] : List (Nat × Nat)).all fun c0 => ([(0, 0)] : List (Nat × Nat)).all fun c1 => chk Tryz.prog c0 c1) = true := by kernel_rfl
theorem all3_1 : (([(3, 3)] : List (Nat × Nat)).all fun c0 => ([(1, 1)] : List (Nat × Nat)).all fun c1 => chk Tryz.prog c0 c1) = true := by kernel_rfl
theorem all3_2 : (([(3, 3)] : List (Nat × Nat)).all fun c0 => ([(2, 2)] : List (Nat × Nat)).all fun c1 => chk Tryz.prog c0 c1) = true := by kernel_rfl
theorem all3_3 : (([(3, 3)] : List (Nat × Nat)).all fun c0 => ([(3, 3)] : List (Nat × Nat)).all fun c1 => chk Tryz.prog c0 c1) = true := by kernel_rfl
theorem all3_4 : (([(3, 3)] : List (Nat × Nat)).all fun c0 => ([(4, 4)] : List (Nat × Nat)).all fun c1 => chk Tryz.prog c0 c1) = true := by kernel_rfl
end Go.Proofs.YtdmkogfpaffnhaaGreatDoor.agentBoxes
