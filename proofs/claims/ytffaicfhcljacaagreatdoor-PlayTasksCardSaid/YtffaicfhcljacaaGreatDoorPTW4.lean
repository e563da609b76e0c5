/- Stages of PlayTasks. -/
import Derived.Test.YtffaicfhcljacaaGreatDoorPTWD
namespace Go.Proofs.YtffaicfhcljacaaGreatDoor.playTasks
open Go Lit
set_option maxRecDepth 1000000
theorem s23 : G 26 (.lp 9) f23 m23 (Z (.lp 19) f24 m24 133 (sn 546 (sn 869 (sn 1546 (sn 2836 (sl 5703) (sl 5723)) (sn 3846 (sl 5715) (sl 5867))) (sn 1909 (sn 3512 (sl 5709) (sl 5727)) (sn 4026 (sl 5719) se))) (sn 1541 (sn 1856 (sn 3507 (sl 5708) (sl 5725)) (sn 3853 (sl 5717) (sl 5868))) (sn 2516 (sn 3799 (sl 5713) (sl 5808)) (sn 4079 (sl 5721) se))))) = true := by kernel_rfl
theorem s24 : G 8 (.lp 19) f24 m24 E = true := by kernel_rfl
theorem s25 : G 7 (.lp 9) f25 m25 (Z (.lp 9) f26 m26 102 (sn 474 (sn 768 (sn 1384 (sn 2555 (sl 4948) (sl 6107)) (sn 3501 (sl 5826) se)) (sn 1718 (sn 3170 (sl 5276) se) (sn 4334 (sl 6083) se))) (sn 1379 (sn 1665 (sn 3165 (sl 5223) (sl 6160)) (sn 4046 (sl 5831) se)) (sn 2264 (sn 3448 (sl 5820) se) (sn 4943 (sl 6105) se))))) = true := by kernel_rfl
theorem s26 : G 30 (.lp 9) f26 m26 E = true := by kernel_rfl
end Go.Proofs.YtffaicfhcljacaaGreatDoor.playTasks
