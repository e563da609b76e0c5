/- Stages of ConsoleGroup. -/
import Derived.Test.YtffaicfhcljacaaGreatDoorCGWD
namespace Go.Proofs.YtffaicfhcljacaaGreatDoor.consoleGroup
open Go Lit
set_option maxRecDepth 1000000
theorem s0 : G 0 5 (.sp 0) [.chan (some 0)] h0 (Z (.sp 5) f1 m1 0 (sn 6 (sn 7 (sn 12 (sn 22 (sl 30) se) (sl 26)) (sn 17 (sn 24 (sl 32) se) (sl 28))) (sn 11 (sn 16 (sn 23 (sl 31) se) (sl 27)) (sn 21 (sn 25 (sl 33) se) (sl 29))))) = true := by kernel_rfl
theorem s2 : G 0 42 (.sp 5) (f1.map (nrw2 100 0 0)) (nrwH 100 0 0 m1) E = true := by kernel_rfl
end Go.Proofs.YtffaicfhcljacaaGreatDoor.consoleGroup
