/- Stages of PlayTasks. -/
import Derived.Test.YtffaicfhcljacaaGreatDoorPTWD
namespace Go.Proofs.YtffaicfhcljacaaGreatDoor.playTasks
open Go Lit
set_option maxRecDepth 1000000
theorem s6 : G 1 (.lp 7) (f4.map (nrw2 100 2 7)) (nrwH 100 2 7 m4) (Z (.lp 7) f7 m7 37 (sn 38 (sn 204 (sl 210) (sl 215)) (sn 205 (sl 212) (sl 219)))) = true := by kernel_rfl
theorem s8 : G 34 (.lp 7) (f7.map (nrw2 100 2 2)) (nrwH 100 2 2 m7) (Z (.sp 21) f31 m31 44 (sn 157 (sn 220 (sn 236 (sn 1134 (sn 2268 (sl 3779) se) (sl 3285)) (sn 1623 (sn 3114 (sl 4542) se) (sl 3770))) (sn 625 (sn 1277 (sn 2613 (sl 3844) se) (sl 3411)) (sn 2128 (sl 3241) (sl 3775)))) (sn 228 (sn 408 (sn 1139 (sn 2321 (sl 3815) se) (sl 3358)) (sn 1771 (sl 3119) (sl 3771))) (sn 776 (sn 1330 (sn 2758 (sl 3845) se) (sl 3765)) (sn 2133 (sl 3278) (sl 3777)))))) = true := by kernel_rfl
theorem s9 : G 1 (.lp 7) (f7.map (nrw2 100 3 7)) (nrwH 100 3 7 m7) (Z (.lp 7) f10 m10 44 (sn 45 (sn 229 (sl 235) (sl 240)) (sn 230 (sl 237) (sl 244)))) = true := by kernel_rfl
theorem s11 : G 30 (.lp 7) (f10.map (nrw2 100 3 3)) (nrwH 100 3 3 m10) (Z (.lp 19) f30 m30 51 (sn 195 (sn 268 (sn 284 (sn 965 (sn 2590 (sl 5256) se) (sn 4003 (sl 5865) se)) (sn 1621 (sn 3355 (sl 5855) se) (sl 4962))) (sn 516 (sn 1392 (sn 2816 (sl 5849) se) (sn 4538 (sl 5945) se)) (sn 2164 (sn 3780 (sl 5861) se) (sl 5156)))) (sn 276 (sn 292 (sn 1387 (sn 2763 (sl 5309) se) (sn 4358 (sl 5910) se)) (sn 1978 (sn 3775 (sl 5859) se) (sl 5117))) (sn 776 (sn 1568 (sn 3172 (sl 5854) se) (sn 4957 (sl 5946) se)) (sn 2585 (sn 3950 (sl 5863) se) (sl 5163)))))) = true := by kernel_rfl
end Go.Proofs.YtffaicfhcljacaaGreatDoor.playTasks
