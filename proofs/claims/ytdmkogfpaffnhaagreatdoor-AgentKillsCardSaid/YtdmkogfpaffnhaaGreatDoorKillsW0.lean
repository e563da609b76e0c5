/- What the executor finds of AgentKills: a part of the cases. -/
import Derived.Test.YtdmkogfpaffnhaaGreatDoorKillsWD
namespace Go.Proofs.YtdmkogfpaffnhaaGreatDoor.agentKills
set_option maxRecDepth 1000000
theorem all0_0 : (chk Tryz.prog ) = true := by kernel_rfl
end Go.Proofs.YtdmkogfpaffnhaaGreatDoor.agentKills
