/- What the executor finds of AgentWindow: a part of the cases. -/
import Derived.Test.YtdmkogfpaffnhaaGreatDoorWindowWD
namespace Go.Proofs.YtdmkogfpaffnhaaGreatDoor.agentWindow
set_option maxRecDepth 1000000
theorem all0_3 : (cov0.all fun c0 => ([(3, 3)] : List (Nat × Nat)).all fun c1 => [true, false].all fun a2 => chk Tryz.prog c0 c1 a2) = true := by kernel_rfl
end Go.Proofs.YtdmkogfpaffnhaaGreatDoor.agentWindow
