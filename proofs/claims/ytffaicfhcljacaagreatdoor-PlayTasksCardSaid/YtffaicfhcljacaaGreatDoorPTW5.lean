/- Stages of PlayTasks. -/
import Derived.Test.YtffaicfhcljacaaGreatDoorPTWD
namespace Go.Proofs.YtffaicfhcljacaaGreatDoor.playTasks
open Go Lit
set_option maxRecDepth 1000000
theorem s27 : G 29 (.lp 9) f27 m27 (Z (.lp 19) f28 m28 100 (sn 440 (sn 445 (sn 741 (sn 2027 (sl 3865) (sl 5084)) (sn 3051 (sl 5072) (sl 5092))) (sn 1476 (sn 2320 (sl 4005) (sl 5088)) (sn 3601 (sl 5078) (sl 5202)))) (sn 688 (sn 1223 (sn 2267 (sl 3872) (sl 5086)) (sn 3596 (sl 5077) (sl 5155))) (sn 2022 (sn 2801 (sl 4058) (sl 5090)) (sn 3822 (sl 5082) (sl 5203)))))) = true := by kernel_rfl
theorem s28 : G 4 (.lp 19) f28 m28 E = true := by kernel_rfl
theorem s29 : G 29 (.lp 9) f29 m29 E = true := by kernel_rfl
theorem s30 : G 8 (.lp 19) f30 m30 E = true := by kernel_rfl
end Go.Proofs.YtffaicfhcljacaaGreatDoor.playTasks
