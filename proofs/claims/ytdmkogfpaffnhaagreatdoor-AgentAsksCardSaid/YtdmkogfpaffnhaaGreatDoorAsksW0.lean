/- What the executor finds of AgentAsks: a part of the cases. -/
import Derived.Test.YtdmkogfpaffnhaaGreatDoorAsksWD
namespace Go.Proofs.YtdmkogfpaffnhaaGreatDoor.agentAsks
set_option maxRecDepth 1000000
theorem all0_0 : (chk Tryz.prog ) = true := by kernel_rfl
end Go.Proofs.YtdmkogfpaffnhaaGreatDoor.agentAsks
