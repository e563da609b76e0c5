/- What the plain terms find of TopGone: a part of the leaves. -/
import Derived.Test.YtpjhjjdhibnciaaGreatDoorTGWD
namespace Go.Proofs.YtpjhjjdhibnciaaGreatDoor.topGone
set_option maxRecDepth 1000000
theorem all24 : (([(0, 0), (1, 1)] : List (Nat × Nat)).all fun c => at_ false [(2, 3, 100, 1, 1), (0, 12, 101, 6, 6), (1, 9, 102, c.1, c.2)]) = true := by kernel_rfl
theorem all25 : (([(2, 2), (3, 3)] : List (Nat × Nat)).all fun c => at_ false [(2, 3, 100, 1, 1), (0, 12, 101, 6, 6), (1, 9, 102, c.1, c.2)]) = true := by kernel_rfl
theorem all26 : (([(4, 4), (5, 8)] : List (Nat × Nat)).all fun c => at_ false [(2, 3, 100, 1, 1), (0, 12, 101, 6, 6), (1, 9, 102, c.1, c.2)]) = true := by kernel_rfl
theorem all27 : (([(0, 8)] : List (Nat × Nat)).all fun c => at_ false [(2, 3, 100, 1, 1), (0, 12, 101, 7, 7), (1, 9, 102, c.1, c.2)]) = true := by kernel_rfl
theorem all28 : (([(0, 0), (1, 1)] : List (Nat × Nat)).all fun c => at_ false [(2, 3, 100, 1, 1), (0, 12, 101, 8, 8), (1, 9, 102, c.1, c.2)]) = true := by kernel_rfl
theorem all29 : (([(2, 2), (3, 3)] : List (Nat × Nat)).all fun c => at_ false [(2, 3, 100, 1, 1), (0, 12, 101, 8, 8), (1, 9, 102, c.1, c.2)]) = true := by kernel_rfl
theorem all30 : (([(4, 4), (5, 8)] : List (Nat × Nat)).all fun c => at_ false [(2, 3, 100, 1, 1), (0, 12, 101, 8, 8), (1, 9, 102, c.1, c.2)]) = true := by kernel_rfl
theorem all31 : (([(0, 8)] : List (Nat × Nat)).all fun c => at_ false [(2, 3, 100, 1, 1), (0, 12, 101, 9, 9), (1, 9, 102, c.1, c.2)]) = true := by kernel_rfl
theorem all32 : (([(0, 8)] : List (Nat × Nat)).all fun c => at_ false [(2, 3, 100, 1, 1), (0, 12, 101, 10, 10), (1, 9, 102, c.1, c.2)]) = true := by kernel_rfl
theorem all33 : (([(0, 8)] : List (Nat × Nat)).all fun c => at_ false [(2, 3, 100, 1, 1), (0, 12, 101, 11, 11), (1, 9, 102, c.1, c.2)]) = true := by kernel_rfl
theorem all34 : (([(0, 8)] : List (Nat × Nat)).all fun c => at_ false [(2, 3, 100, 2, 2), (0, 12, 101, 0, 0), (1, 9, 102, c.1, c.2)]) = true := by kernel_rfl
theorem all35 : (([(0, 8)] : List (Nat × Nat)).all fun c => at_ false [(2, 3, 100, 2, 2), (0, 12, 101, 1, 1), (1, 9, 102, c.1, c.2)]) = true := by kernel_rfl
end Go.Proofs.YtpjhjjdhibnciaaGreatDoor.topGone
