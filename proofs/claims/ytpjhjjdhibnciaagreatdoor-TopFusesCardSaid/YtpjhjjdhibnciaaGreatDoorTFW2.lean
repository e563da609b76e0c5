/- What the plain terms find of TopFuses: a part of the leaves. -/
import Derived.Test.YtpjhjjdhibnciaaGreatDoorTFWD
namespace Go.Proofs.YtpjhjjdhibnciaaGreatDoor.topFuses
set_option maxRecDepth 1000000
theorem all12 : (([(44, 44), (45, 45), (46, 46), (47, 47)] : List (Nat × Nat)).all fun c => at_ false [(0, 8, 100, 1, 1), (1, 120, 101, c.1, c.2)]) = true := by kernel_rfl
theorem all13 : (([(48, 48), (49, 49), (50, 50), (51, 51)] : List (Nat × Nat)).all fun c => at_ false [(0, 8, 100, 1, 1), (1, 120, 101, c.1, c.2)]) = true := by kernel_rfl
theorem all14 : (([(52, 52), (53, 53), (54, 54), (55, 55)] : List (Nat × Nat)).all fun c => at_ false [(0, 8, 100, 1, 1), (1, 120, 101, c.1, c.2)]) = true := by kernel_rfl
theorem all15 : (([(56, 56), (57, 57), (58, 58), (59, 59)] : List (Nat × Nat)).all fun c => at_ false [(0, 8, 100, 1, 1), (1, 120, 101, c.1, c.2)]) = true := by kernel_rfl
theorem all16 : (([(60, 60), (61, 61), (62, 62), (63, 63)] : List (Nat × Nat)).all fun c => at_ false [(0, 8, 100, 1, 1), (1, 120, 101, c.1, c.2)]) = true := by kernel_rfl
theorem all17 : (([(64, 119)] : List (Nat × Nat)).all fun c => at_ false [(0, 8, 100, 1, 1), (1, 120, 101, c.1, c.2)]) = true := by kernel_rfl
end Go.Proofs.YtpjhjjdhibnciaaGreatDoor.topFuses
