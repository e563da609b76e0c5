/- What the executor finds of AgentAsks, case by case. -/
import Derived.Test.YtdmkogfpaffnhaaGreatDoorAllSum
import Derived.Test.YtdmkogfpaffnhaaGreatDoorPl
namespace Go.Proofs.YtdmkogfpaffnhaaGreatDoor.agentAsks
def cfg : Cfg := ⟨fun _ => true, overW [], summAll⟩
noncomputable def chk (P : Program) : Bool := yes (gcall (mkTab tabAll) (deep P (cfg ) 3000) 60 9 [.chan (some 0)] h0)
end Go.Proofs.YtdmkogfpaffnhaaGreatDoor.agentAsks
