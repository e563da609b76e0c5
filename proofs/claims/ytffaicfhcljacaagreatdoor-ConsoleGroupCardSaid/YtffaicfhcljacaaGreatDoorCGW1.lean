/- Stages of ConsoleGroup. -/
import Derived.Test.YtffaicfhcljacaaGreatDoorCGWD
namespace Go.Proofs.YtffaicfhcljacaaGreatDoor.consoleGroup
open Go Lit
set_option maxRecDepth 1000000
theorem s4 : G 0 42 (.sp 5) ((f1.map (nrw2 100 1 2)).map (nrw2 100 1 1)) (nrwH 100 1 1 (nrwH 100 1 2 m1)) E = true := by kernel_rfl
theorem s5 : G 0 42 (.sp 5) ((f1.map (nrw2 100 1 2)).map (nrw2 100 2 2)) (nrwH 100 2 2 (nrwH 100 1 2 m1)) E = true := by kernel_rfl
end Go.Proofs.YtffaicfhcljacaaGreatDoor.consoleGroup
