/- Stages of ConsoleDay. -/
import Derived.Test.YtffaicfhcljacaaGreatDoorCDWD
namespace Go.Proofs.YtffaicfhcljacaaGreatDoor.consoleDay
open Go Lit
set_option maxRecDepth 1000000
theorem s8000 : G 8 55 (.sp 0) [.chan (some 0)] h0 E = true := by kernel_rfl
end Go.Proofs.YtffaicfhcljacaaGreatDoor.consoleDay
