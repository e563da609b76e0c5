/- Stages of PlayTasks. -/
import Derived.Test.YtffaicfhcljacaaGreatDoorPTWD
namespace Go.Proofs.YtffaicfhcljacaaGreatDoor.playTasks
open Go Lit
set_option maxRecDepth 1000000
theorem s18 : G 1 (.lp 7) (f16.map (nrw2 100 6 7)) (nrwH 100 6 7 m16) (Z (.lp 7) f19 m19 65 (sn 66 (sn 304 (sl 310) (sl 315)) (sn 305 (sl 312) (sl 319)))) = true := by kernel_rfl
theorem s20 : G 10 (.lp 7) (f19.map (nrw2 100 6 6)) (nrwH 100 6 6 m19) (Z (.lp 9) f25 m25 72 (sn 307 (sn 309 (sn 420 (sn 452 (sl 2441) (sl 4849)) (sn 1229 (sl 3956) (sl 6024))) (sn 436 (sn 838 (sl 3043) (sl 5758)) (sn 2146 (sl 4248) (sl 6100)))) (sn 412 (sn 428 (sn 460 (sl 2494) (sl 5146)) (sn 1532 (sl 3961) (sl 6047))) (sn 444 (sn 840 (sl 3343) (sl 5763)) (sn 2151 (sl 4301) se))))) = true := by kernel_rfl
theorem s21 : G 10 (.lp 7) (f19.map (nrw2 100 7 7)) (nrwH 100 7 7 m19) (Z (.lp 9) f22 m22 72 (sn 73 (sn 329 (sn 335 (sn 785 (sn 948 (sl 5848) se) (sl 3172)) (sn 916 (sn 1820 (sl 6183) se) (sl 4853))) (sn 340 (sn 900 (sn 1386 (sl 5859) se) (sl 3838)) (sn 932 (sn 2839 (sl 6238) se) (sl 5183)))) (sn 330 (sn 337 (sn 787 (sn 956 (sl 5854) se) (sl 3225)) (sn 924 (sn 2161 (sl 6185) se) (sl 4858))) (sn 344 (sn 908 (sn 1388 (sl 6159) se) (sl 4176)) (sn 940 (sl 2844) (sl 5236)))))) = true := by kernel_rfl
theorem s22 : G 7 (.lp 9) f22 m22 (Z (.lp 9) f23 m23 110 (sn 532 (sn 537 (sn 912 (sn 2535 (sl 4894) se) (sn 3846 (sl 6507) se)) (sn 1855 (sn 2907 (sl 5829) se) (sn 4525 (sl 6820) se))) (sn 859 (sn 1523 (sn 2854 (sl 5503) se) (sn 4520 (sl 6795) se)) (sn 2530 (sn 3517 (sl 6502) se) (sn 4841 (sl 6873) se))))) = true := by kernel_rfl
end Go.Proofs.YtffaicfhcljacaaGreatDoor.playTasks
