/- What the executor finds of AgentRefuses: a part of the cases. -/
import Derived.Test.YtdmkogfpaffnhaaGreatDoorRefusesWD
namespace Go.Proofs.YtdmkogfpaffnhaaGreatDoor.agentRefuses
set_option maxRecDepth 1000000
theorem all1_0 : (([(1, 1)] : List (Nat × Nat)).all fun c0 => chk Tryz.prog c0) = true := by kernel_rfl
end Go.Proofs.YtdmkogfpaffnhaaGreatDoor.agentRefuses
