/- What the plain terms find of TopFuses: a part of the leaves. -/
import Derived.Test.YtpjhjjdhibnciaaGreatDoorTFWD
namespace Go.Proofs.YtpjhjjdhibnciaaGreatDoor.topFuses
set_option maxRecDepth 1000000
theorem all24 : (([(0, 119)] : List (Nat × Nat)).all fun c => at_ false [(0, 8, 100, 6, 6), (1, 120, 101, c.1, c.2)]) = true := by kernel_rfl
theorem all25 : (([(0, 119)] : List (Nat × Nat)).all fun c => at_ false [(0, 8, 100, 7, 7), (1, 120, 101, c.1, c.2)]) = true := by kernel_rfl
theorem all26 : (([(0, 119)] : List (Nat × Nat)).all fun c => at_ true [(0, 8, 100, 0, 0), (1, 120, 101, c.1, c.2)]) = true := by kernel_rfl
theorem all27 : (([(0, 0), (1, 1), (2, 2), (3, 3)] : List (Nat × Nat)).all fun c => at_ true [(0, 8, 100, 1, 1), (1, 120, 101, c.1, c.2)]) = true := by kernel_rfl
theorem all28 : (([(4, 4), (5, 5), (6, 6), (7, 7)] : List (Nat × Nat)).all fun c => at_ true [(0, 8, 100, 1, 1), (1, 120, 101, c.1, c.2)]) = true := by kernel_rfl
theorem all29 : (([(8, 8), (9, 9), (10, 10), (11, 11)] : List (Nat × Nat)).all fun c => at_ true [(0, 8, 100, 1, 1), (1, 120, 101, c.1, c.2)]) = true := by kernel_rfl
end Go.Proofs.YtpjhjjdhibnciaaGreatDoor.topFuses
