/- What the plain terms find of TopGone: a part of the leaves. -/
import Derived.Test.YtpjhjjdhibnciaaGreatDoorTGWD
namespace Go.Proofs.YtpjhjjdhibnciaaGreatDoor.topGone
set_option maxRecDepth 1000000
theorem all12 : (([(0, 8)] : List (Nat × Nat)).all fun c => at_ false [(2, 3, 100, 0, 0), (0, 12, 101, 8, 8), (1, 9, 102, c.1, c.2)]) = true := by kernel_rfl
theorem all13 : (([(0, 8)] : List (Nat × Nat)).all fun c => at_ false [(2, 3, 100, 0, 0), (0, 12, 101, 9, 9), (1, 9, 102, c.1, c.2)]) = true := by kernel_rfl
theorem all14 : (([(0, 8)] : List (Nat × Nat)).all fun c => at_ false [(2, 3, 100, 0, 0), (0, 12, 101, 10, 10), (1, 9, 102, c.1, c.2)]) = true := by kernel_rfl
theorem all15 : (([(0, 8)] : List (Nat × Nat)).all fun c => at_ false [(2, 3, 100, 0, 0), (0, 12, 101, 11, 11), (1, 9, 102, c.1, c.2)]) = true := by kernel_rfl
theorem all16 : (([(0, 8)] : List (Nat × Nat)).all fun c => at_ false [(2, 3, 100, 1, 1), (0, 12, 101, 0, 0), (1, 9, 102, c.1, c.2)]) = true := by kernel_rfl
theorem all17 : (([(0, 8)] : List (Nat × Nat)).all fun c => at_ false [(2, 3, 100, 1, 1), (0, 12, 101, 1, 1), (1, 9, 102, c.1, c.2)]) = true := by kernel_rfl
theorem all18 : (([(0, 8)] : List (Nat × Nat)).all fun c => at_ false [(2, 3, 100, 1, 1), (0, 12, 101, 2, 2), (1, 9, 102, c.1, c.2)]) = true := by kernel_rfl
theorem all19 : (([(0, 8)] : List (Nat × Nat)).all fun c => at_ false [(2, 3, 100, 1, 1), (0, 12, 101, 3, 3), (1, 9, 102, c.1, c.2)]) = true := by kernel_rfl
theorem all20 : (([(0, 0), (1, 1)] : List (Nat × Nat)).all fun c => at_ false [(2, 3, 100, 1, 1), (0, 12, 101, 4, 4), (1, 9, 102, c.1, c.2)]) = true := by kernel_rfl
theorem all21 : (([(2, 2), (3, 3)] : List (Nat × Nat)).all fun c => at_ false [(2, 3, 100, 1, 1), (0, 12, 101, 4, 4), (1, 9, 102, c.1, c.2)]) = true := by kernel_rfl
theorem all22 : (([(4, 4), (5, 8)] : List (Nat × Nat)).all fun c => at_ false [(2, 3, 100, 1, 1), (0, 12, 101, 4, 4), (1, 9, 102, c.1, c.2)]) = true := by kernel_rfl
theorem all23 : (([(0, 8)] : List (Nat × Nat)).all fun c => at_ false [(2, 3, 100, 1, 1), (0, 12, 101, 5, 5), (1, 9, 102, c.1, c.2)]) = true := by kernel_rfl
end Go.Proofs.YtpjhjjdhibnciaaGreatDoor.topGone
