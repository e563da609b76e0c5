/- Stages of AgentFull. -/
import Derived.Test.YtffaicfhcljacaaGreatDoorAFWD
namespace Go.Proofs.YtffaicfhcljacaaGreatDoor.agentFull
open Go Lit
set_option maxRecDepth 1000000
theorem s105 : G 4 (.lp 9) (f103.map (nrw2 100 58 91)) (nrwH 100 58 91 m103) (Z (.lp 9) f106 m106 56 (sn 357 (sn 358 (sn 365 (sn 379 (sl 1386) se) (sl 1377)) (sn 371 (sl 1297) (sl 1379))) (sn 363 (sn 368 (sn 522 (sl 1563) se) (sl 1378)) (sn 375 (sl 1376) (sl 1385))))) = true := by kernel_rfl
theorem s107 : G 13 (.lp 9) (f106.map (nrw2 100 58 72)) (nrwH 100 58 72 m106) E = true := by kernel_rfl
theorem s108 : G 4 (.lp 9) (f106.map (nrw2 100 73 91)) (nrwH 100 73 91 m106) (Z (.lp 9) f109 m109 73 (sn 441 (sn 442 (sn 449 (sn 463 (sl 1753) se) (sl 1744)) (sn 455 (sl 1639) (sl 1746))) (sn 447 (sn 452 (sn 651 (sl 1973) se) (sl 1745)) (sn 459 (sl 1743) (sl 1752))))) = true := by kernel_rfl
theorem s110 : G 9 (.lp 9) (f109.map (nrw2 100 73 87)) (nrwH 100 73 87 m109) E = true := by kernel_rfl
theorem s111 : G 9 (.lp 9) (f109.map (nrw2 100 88 91)) (nrwH 100 88 91 m109) E = true := by kernel_rfl
end Go.Proofs.YtffaicfhcljacaaGreatDoor.agentFull
