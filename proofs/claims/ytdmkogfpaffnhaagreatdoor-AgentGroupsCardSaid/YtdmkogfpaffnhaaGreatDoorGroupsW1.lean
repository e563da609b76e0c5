/- What the executor finds of AgentGroups: a part of the cases. -/
import Derived.Test.YtdmkogfpaffnhaaGreatDoorGroupsWD
namespace Go.Proofs.YtdmkogfpaffnhaaGreatDoor.agentGroups
set_option maxRecDepth 1000000
theorem all1_0 : (([(1, 1)] : List (Nat × Nat)).all fun c0 => chk Tryz.prog c0) = true := by kernel_rfl
end Go.Proofs.YtdmkogfpaffnhaaGreatDoor.agentGroups
