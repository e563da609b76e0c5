/- What the executor finds of AgentShuts: a part of the cases. -/
import Derived.Test.YtdmkogfpaffnhaaGreatDoorShutsWD
namespace Go.Proofs.YtdmkogfpaffnhaaGreatDoor.agentShuts
set_option maxRecDepth 1000000
theorem all1_0 : (([(1, 1)] : List (Nat × Nat)).all fun c0 => chk Tryz.prog c0) = true := by kernel_rfl
end Go.Proofs.YtdmkogfpaffnhaaGreatDoor.agentShuts
