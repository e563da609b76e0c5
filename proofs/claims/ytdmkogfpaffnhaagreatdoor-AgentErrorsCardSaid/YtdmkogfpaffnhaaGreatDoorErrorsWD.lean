/- What the executor finds of AgentErrors, case by case. -/
import Derived.Test.YtdmkogfpaffnhaaGreatDoorAllSum
import Derived.Test.YtdmkogfpaffnhaaGreatDoorPl
namespace Go.Proofs.YtdmkogfpaffnhaaGreatDoor.agentErrors
def cfg (c0 : Nat × Nat) : Cfg := ⟨fun _ => true, overW [(0, 50, caseV 100 c0)], summAll⟩
noncomputable def chk (P : Program) (c0 : Nat × Nat) : Bool := yes (gcall (mkTab tabAll) (deep P (cfg c0) 3000) 60 10 [.chan (some 0)] h0)
def cov0 : List (Nat × Nat) := ([(0, 49)] : List (Nat × Nat))
end Go.Proofs.YtdmkogfpaffnhaaGreatDoor.agentErrors
