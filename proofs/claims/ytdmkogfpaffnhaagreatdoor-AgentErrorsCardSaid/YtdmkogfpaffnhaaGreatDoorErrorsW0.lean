/- What the executor finds of AgentErrors: a part of the cases. -/
import Derived.Test.YtdmkogfpaffnhaaGreatDoorErrorsWD
namespace Go.Proofs.YtdmkogfpaffnhaaGreatDoor.agentErrors
set_option maxRecDepth 1000000
theorem all0_0 : (cov0.all fun c0 => chk Tryz.prog c0) = true := by kernel_rfl
end Go.Proofs.YtdmkogfpaffnhaaGreatDoor.agentErrors
