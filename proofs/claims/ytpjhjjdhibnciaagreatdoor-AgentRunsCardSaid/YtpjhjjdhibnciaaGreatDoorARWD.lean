/- What the executor finds of AgentRuns, case by case. -/
import Derived.Test.YtpjhjjdhibnciaaGreatDoorAllSum
import Derived.Test.YtpjhjjdhibnciaaGreatDoorPlT
namespace Go.Proofs.YtpjhjjdhibnciaaGreatDoor.agentRuns
def cfg (c0 : Nat × Nat) (c1 : Nat × Nat) : Cfg := ⟨fun _ => true, overW [(0, 3, caseV 100 c0), (1, 9, caseV 101 c1)], summAll⟩
noncomputable def chk (P : Program) (c0 : Nat × Nat) (c1 : Nat × Nat) : Bool := yes (gcall (mkTab tabAll) (deep P (cfg c0 c1) 3000) 60 12 [.chan (some 0), .chan (some 1)] h0)
def cov0 : List (Nat × Nat) := ([(0, 0), (1, 1), (2, 2)] : List (Nat × Nat))
def cov1 : List (Nat × Nat) := ([(0, 0), (1, 1), (2, 2), (3, 3), (4, 4), (5, 5), (6, 6), (7, 7), (8, 8)] : List (Nat × Nat))
end Go.Proofs.YtpjhjjdhibnciaaGreatDoor.agentRuns
