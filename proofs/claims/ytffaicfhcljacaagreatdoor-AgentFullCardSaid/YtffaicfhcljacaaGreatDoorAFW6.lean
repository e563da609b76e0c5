/- Stages of AgentFull. -/
import Derived.Test.YtffaicfhcljacaaGreatDoorAFWD
namespace Go.Proofs.YtffaicfhcljacaaGreatDoor.agentFull
open Go Lit
set_option maxRecDepth 1000000
theorem s91 : G 1 (.lp 9) (f89.map (nrw2 100 152 170)) (nrwH 100 152 170 m89) (Z (.lp 9) f92 m92 93 (sn 130 (sn 234 (sn 236 (sn 528 (sl 783) se) (sl 539)) (sn 243 (sl 534) (sl 546))) (sn 235 (sn 237 (sl 529) (sl 542)) (sn 244 (sl 536) (sl 550))))) = true := by kernel_rfl
theorem s93 : G 14 (.lp 9) (f92.map (nrw2 100 152 166)) (nrwH 100 152 166 m92) (Z (.sp 12) f96 m96 109 (sn 6420 (sn 6549 (sn 6551 (sn 6822 (sn 7300 (sl 7528) se) (sn 7498 (sl 7602) se)) (sn 6966 (sn 7472 (sl 7590) se) (sn 7524 (sl 7622) se))) (sn 6558 (sn 6956 (sn 7459 (sl 7580) se) (sn 7511 (sl 7612) se)) (sn 7104 (sn 7485 (sl 7594) se) (sl 7526)))) (sn 6550 (sn 6552 (sn 6955 (sn 7398 (sl 7578) se) (sn 7505 (sl 7607) se)) (sn 7006 (sn 7479 (sl 7592) se) (sn 7525 (sl 7627) se))) (sn 6559 (sn 6965 (sn 7466 (sl 7585) se) (sn 7518 (sl 7617) se)) (sn 7202 (sn 7492 (sl 7597) se) (sl 7527)))))) = true := by kernel_rfl
theorem s94 : G 10 (.lp 9) (f92.map (nrw2 100 167 170)) (nrwH 100 167 170 m92) (Z (.lp 9) f95 m95 109 (sn 611 (sn 612 (sn 619 (sn 633 (sl 6955) se) (sl 6946)) (sn 625 (sl 6791) (sl 6948))) (sn 617 (sn 622 (sn 911 (sl 7261) se) (sl 6947)) (sn 629 (sl 6945) (sl 6954))))) = true := by kernel_rfl
theorem s95 : G 6 (.lp 9) f95 m95 E = true := by kernel_rfl
theorem s96 : G 2 (.sp 12) f96 m96 E = true := by kernel_rfl
theorem s97 : G 1 (.sp 13) f97 m97 E = true := by kernel_rfl
theorem s98 : G 1 (.sp 13) f98 m98 E = true := by kernel_rfl
theorem s99 : G 6 (.lp 9) f99 m99 E = true := by kernel_rfl
theorem s101 : G 21 (.lp 9) (f100.map (nrw2 100 28 42)) (nrwH 100 28 42 m100) E = true := by kernel_rfl
theorem s102 : G 4 (.lp 9) (f100.map (nrw2 100 43 91)) (nrwH 100 43 91 m100) (Z (.lp 9) f103 m103 39 (sn 273 (sn 274 (sn 281 (sn 295 (sl 1019) se) (sl 1010)) (sn 287 (sl 955) (sl 1012))) (sn 279 (sn 284 (sn 393 (sl 1153) se) (sl 1011)) (sn 291 (sl 1009) (sl 1018))))) = true := by kernel_rfl
theorem s104 : G 17 (.lp 9) (f103.map (nrw2 100 43 57)) (nrwH 100 43 57 m103) E = true := by kernel_rfl
end Go.Proofs.YtffaicfhcljacaaGreatDoor.agentFull
