/- Stages of PlayTasks. -/
import Derived.Test.YtffaicfhcljacaaGreatDoorPTWD
namespace Go.Proofs.YtffaicfhcljacaaGreatDoor.playTasks
open Go Lit
set_option maxRecDepth 1000000
theorem s0 : G 9 (.sp 0) [.chan (some 0), .chan (some 1)] h0 (Z (.lp 7) f1 m1 0 (sn 5 (sn 6 (sn 11 (sn 21 (sl 29) (sl 203)) (sn 25 (sl 101) (sl 213))) (sn 16 (sn 23 (sl 31) (sl 208)) (sn 27 (sl 197) (sl 247)))) (sn 10 (sn 15 (sn 22 (sl 30) (sl 205)) (sn 26 (sl 102) (sl 215))) (sn 20 (sn 24 (sl 64) (sl 212)) (sn 28 (sl 198) se))))) = true := by kernel_rfl
theorem s2 : G 29 (.lp 7) (f1.map (nrw2 100 0 0)) (nrwH 100 0 0 m1) E = true := by kernel_rfl
theorem s3 : G 1 (.lp 7) (f1.map (nrw2 100 1 7)) (nrwH 100 1 7 m1) (Z (.lp 7) f4 m4 30 (sn 31 (sn 179 (sl 185) (sl 190)) (sn 180 (sl 187) (sl 194)))) = true := by kernel_rfl
theorem s5 : G 32 (.lp 7) (f4.map (nrw2 100 1 1)) (nrwH 100 1 1 m4) E = true := by kernel_rfl
end Go.Proofs.YtffaicfhcljacaaGreatDoor.playTasks
