/- What the executor finds of AgentShuts: a part of the cases. -/
import Derived.Test.YtdmkogfpaffnhaaGreatDoorShutsWD
namespace Go.Proofs.YtdmkogfpaffnhaaGreatDoor.agentShuts
set_option maxRecDepth 1000000
theorem all0_0 : (([(0, 0)] : List (Nat × Nat)).all fun c0 => chk Tryz.prog c0) = true := by kernel_rfl
end Go.Proofs.YtdmkogfpaffnhaaGreatDoor.agentShuts
