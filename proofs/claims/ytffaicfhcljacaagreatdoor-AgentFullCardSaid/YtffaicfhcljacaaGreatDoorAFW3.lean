/- Stages of AgentFull. -/
import Derived.Test.YtffaicfhcljacaaGreatDoorAFWD
namespace Go.Proofs.YtffaicfhcljacaaGreatDoor.agentFull
open Go Lit
set_option maxRecDepth 1000000
theorem s49 : G 1 (.sp 13) f49 m49 E = true := by kernel_rfl
theorem s50 : G 9 (.lp 9) f50 m50 E = true := by kernel_rfl
theorem s51 : G 9 (.lp 9) f51 m51 E = true := by kernel_rfl
theorem s52 : G 10 (.lp 9) f52 m52 E = true := by kernel_rfl
theorem s53 : G 9 (.lp 9) f53 m53 E = true := by kernel_rfl
theorem s54 : G 9 (.lp 9) f54 m54 E = true := by kernel_rfl
theorem s55 : G 8 (.lp 9) f55 m55 E = true := by kernel_rfl
theorem s57 : G 9 (.lp 9) (f56.map (nrw2 100 250 260)) (nrwH 100 250 260 m56) (Z (.lp 9) f60 m60 111 (sn 7005 (sn 7184 (sn 7186 (sl 7640) se) (sl 7193)) (sn 7185 (sl 7187) (sl 7194)))) = true := by kernel_rfl
theorem s58 : G 8 (.lp 9) (f56.map (nrw2 100 261 264)) (nrwH 100 261 264 m56) (Z (.lp 9) f59 m59 111 (sn 747 (sn 748 (sn 755 (sn 769 (sl 7107) se) (sl 7098)) (sn 761 (sl 6893) (sl 7100))) (sn 753 (sn 758 (sn 1137 (sl 7595) se) (sl 7099)) (sn 765 (sl 7097) (sl 7106))))) = true := by kernel_rfl
theorem s59 : G 8 (.lp 9) f59 m59 E = true := by kernel_rfl
theorem s60 : G 7 (.lp 9) f60 m60 E = true := by kernel_rfl
end Go.Proofs.YtffaicfhcljacaaGreatDoor.agentFull
