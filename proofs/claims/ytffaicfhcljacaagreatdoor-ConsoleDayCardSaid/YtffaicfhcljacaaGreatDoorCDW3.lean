/- Stages of ConsoleDay. -/
import Derived.Test.YtffaicfhcljacaaGreatDoorCDWD
namespace Go.Proofs.YtffaicfhcljacaaGreatDoor.consoleDay
open Go Lit
set_option maxRecDepth 1000000
theorem s6000 : G 6 55 (.sp 0) [.chan (some 0)] h0 E = true := by kernel_rfl
theorem s7000 : G 7 55 (.sp 0) [.chan (some 0)] h0 E = true := by kernel_rfl
end Go.Proofs.YtffaicfhcljacaaGreatDoor.consoleDay
