/- Stages of PlayTasks. -/
import Derived.Test.YtffaicfhcljacaaGreatDoorPTWD
namespace Go.Proofs.YtffaicfhcljacaaGreatDoor.playTasks
open Go Lit
set_option maxRecDepth 1000000
theorem s31 : G 1 (.sp 21) f31 m31 E = true := by kernel_rfl
end Go.Proofs.YtffaicfhcljacaaGreatDoor.playTasks
