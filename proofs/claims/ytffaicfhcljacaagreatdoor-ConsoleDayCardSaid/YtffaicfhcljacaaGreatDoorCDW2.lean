/- Stages of ConsoleDay. -/
import Derived.Test.YtffaicfhcljacaaGreatDoorCDWD
namespace Go.Proofs.YtffaicfhcljacaaGreatDoor.consoleDay
open Go Lit
set_option maxRecDepth 1000000
theorem s4000 : G 4 55 (.sp 0) [.chan (some 0)] h0 E = true := by kernel_rfl
theorem s5000 : G 5 55 (.sp 0) [.chan (some 0)] h0 E = true := by kernel_rfl
end Go.Proofs.YtffaicfhcljacaaGreatDoor.consoleDay
