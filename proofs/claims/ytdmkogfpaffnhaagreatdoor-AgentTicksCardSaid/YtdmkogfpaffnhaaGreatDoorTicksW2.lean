/- What the executor finds of AgentTicks: a part of the cases. -/
import Derived.Test.YtdmkogfpaffnhaaGreatDoorTicksWD
namespace Go.Proofs.YtdmkogfpaffnhaaGreatDoor.agentTicks
set_option maxRecDepth 1000000
theorem all14_0 : (([(14, 14)] : List (Nat × Nat)).all fun c0 => chk Tryz.prog c0) = true := by kernel_rfl
theorem all15_0 : (([(15, 15)] : List (Nat × Nat)).all fun c0 => chk Tryz.prog c0) = true := by kernel_rfl
theorem all16_0 : (([(16, 16)] : List (Nat × Nat)).all fun c0 => chk Tryz.prog c0) = true := by kernel_rfl
theorem all17_0 : (([(17, 17)] : List (Nat × Nat)).all fun c0 => chk Tryz.prog c0) = true := by kernel_rfl
theorem all18_0 : (([(18, 18)] : List (Nat × Nat)).all fun c0 => chk Tryz.prog c0) = true := by kernel_rfl
theorem all19_0 : (([(19, 19)] : List (Nat × Nat)).all fun c0 => chk Tryz.prog c0) = true := by kernel_rfl
end Go.Proofs.YtdmkogfpaffnhaaGreatDoor.agentTicks
