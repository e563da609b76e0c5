/- What the executor finds of AgentRuns: a part of the cases. -/
import Derived.Test.YtpjhjjdhibnciaaGreatDoorARWD
namespace Go.Proofs.YtpjhjjdhibnciaaGreatDoor.agentRuns
set_option maxRecDepth 1000000
theorem all0_0 : (([(0, 0)] : List (Nat × Nat)).all fun c0 => ([(0, 0), (1, 1), (2, 2)] : List (Nat × Nat)).all fun c1 => chk Tryz.prog c0 c1) = true := by kernel_rfl
theorem all0_1 : (([(0, 0)] : List (Nat × Nat)).all fun c0 => ([(3, 3), (4, 4), (5, 5)] : List (Nat × Nat)).all fun c1 => chk Tryz.prog c0 c1) = true := by kernel_rfl
theorem all0_2 : (([(0, 0)] : List (Nat × Nat)).all fun c0 => ([(6, 6), (7, 7), (8, 8)] : List (Nat × Nat)).all fun c1 => chk Tryz.prog c0 c1) = true := by kernel_rfl
end Go.Proofs.YtpjhjjdhibnciaaGreatDoor.agentRuns
