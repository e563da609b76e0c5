/- What the executor finds of AgentOwn, case by case. -/
import Derived.Test.YtdmkogfpaffnhaaGreatDoorAllSum
namespace Go.Proofs.YtdmkogfpaffnhaaGreatDoor.agentOwn
def cfg (c0 : Nat × Nat) : Cfg := ⟨fun _ => true, overW [(0, 4, caseV 100 c0)], summAll⟩
def chk (P : Program) (c0 : Nat × Nat) : Bool := yes (xcall P (cfg c0) 60000 11 [.chan (some 0)] h0)
def cov0 : List (Nat × Nat) := ([(0, 0), (1, 1), (2, 2), (3, 3)] : List (Nat × Nat))
end Go.Proofs.YtdmkogfpaffnhaaGreatDoor.agentOwn
