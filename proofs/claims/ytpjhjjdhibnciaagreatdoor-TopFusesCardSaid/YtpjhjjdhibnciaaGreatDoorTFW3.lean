/- What the plain terms find of TopFuses: a part of the leaves. -/
import Derived.Test.YtpjhjjdhibnciaaGreatDoorTFWD
namespace Go.Proofs.YtpjhjjdhibnciaaGreatDoor.topFuses
set_option maxRecDepth 1000000
theorem all18 : (([(0, 119)] : List (Nat × Nat)).all fun c => at_ false [(0, 8, 100, 2, 2), (1, 120, 101, c.1, c.2)]) = true := by kernel_rfl
theorem all19 : (([(0, 119)] : List (Nat × Nat)).all fun c => at_ false [(0, 8, 100, 3, 3), (1, 120, 101, c.1, c.2)]) = true := by kernel_rfl
theorem all20 : (([(0, 0), (1, 1), (2, 2), (3, 3)] : List (Nat × Nat)).all fun c => at_ false [(0, 8, 100, 4, 4), (1, 120, 101, c.1, c.2)]) = true := by kernel_rfl
theorem all21 : (([(4, 4), (5, 5), (6, 6), (7, 7)] : List (Nat × Nat)).all fun c => at_ false [(0, 8, 100, 4, 4), (1, 120, 101, c.1, c.2)]) = true := by kernel_rfl
theorem all22 : (([(8, 8), (9, 9), (10, 119)] : List (Nat × Nat)).all fun c => at_ false [(0, 8, 100, 4, 4), (1, 120, 101, c.1, c.2)]) = true := by kernel_rfl
theorem all23 : (([(0, 119)] : List (Nat × Nat)).all fun c => at_ false [(0, 8, 100, 5, 5), (1, 120, 101, c.1, c.2)]) = true := by kernel_rfl
end Go.Proofs.YtpjhjjdhibnciaaGreatDoor.topFuses
