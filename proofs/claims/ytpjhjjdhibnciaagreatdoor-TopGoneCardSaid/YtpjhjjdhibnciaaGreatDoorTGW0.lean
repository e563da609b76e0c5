/- What the plain terms find of TopGone: a part of the leaves. -/
import Derived.Test.YtpjhjjdhibnciaaGreatDoorTGWD
namespace Go.Proofs.YtpjhjjdhibnciaaGreatDoor.topGone
set_option maxRecDepth 1000000
theorem all0 : (([(0, 8)] : List (Nat × Nat)).all fun c => at_ false [(2, 3, 100, 0, 0), (0, 12, 101, 0, 0), (1, 9, 102, c.1, c.2)]) = true := by kernel_rfl
theorem all1 : (([(0, 8)] : List (Nat × Nat)).all fun c => at_ false [(2, 3, 100, 0, 0), (0, 12, 101, 1, 1), (1, 9, 102, c.1, c.2)]) = true := by kernel_rfl
theorem all2 : (([(0, 8)] : List (Nat × Nat)).all fun c => at_ false [(2, 3, 100, 0, 0), (0, 12, 101, 2, 2), (1, 9, 102, c.1, c.2)]) = true := by kernel_rfl
theorem all3 : (([(0, 8)] : List (Nat × Nat)).all fun c => at_ false [(2, 3, 100, 0, 0), (0, 12, 101, 3, 3), (1, 9, 102, c.1, c.2)]) = true := by kernel_rfl
theorem all4 : (([(0, 0), (1, 1)] : List (Nat × Nat)).all fun c => at_ false [(2, 3, 100, 0, 0), (0, 12, 101, 4, 4), (1, 9, 102, c.1, c.2)]) = true := by kernel_rfl
theorem all5 : (([(2, 2), (3, 3)] : List (Nat × Nat)).all fun c => at_ false [(2, 3, 100, 0, 0), (0, 12, 101, 4, 4), (1, 9, 102, c.1, c.2)]) = true := by kernel_rfl
theorem all6 : (([(4, 4), (5, 8)] : List (Nat × Nat)).all fun c => at_ false [(2, 3, 100, 0, 0), (0, 12, 101, 4, 4), (1, 9, 102, c.1, c.2)]) = true := by kernel_rfl
theorem all7 : (([(0, 8)] : List (Nat × Nat)).all fun c => at_ false [(2, 3, 100, 0, 0), (0, 12, 101, 5, 5), (1, 9, 102, c.1, c.2)]) = true := by kernel_rfl
theorem all8 : (([(0, 0), (1, 1)] : List (Nat × Nat)).all fun c => at_ false [(2, 3, 100, 0, 0), (0, 12, 101, 6, 6), (1, 9, 102, c.1, c.2)]) = true := by kernel_rfl
theorem all9 : (([(2, 2), (3, 3)] : List (Nat × Nat)).all fun c => at_ false [(2, 3, 100, 0, 0), (0, 12, 101, 6, 6), (1, 9, 102, c.1, c.2)]) = true := by kernel_rfl
theorem all10 : (([(4, 4), (5, 8)] : List (Nat × Nat)).all fun c => at_ false [(2, 3, 100, 0, 0), (0, 12, 101, 6, 6), (1, 9, 102, c.1, c.2)]) = true := by kernel_rfl
theorem all11 : (([(0, 8)] : List (Nat × Nat)).all fun c => at_ false [(2, 3, 100, 0, 0), (0, 12, 101, 7, 7), (1, 9, 102, c.1, c.2)]) = true := by kernel_rfl
end Go.Proofs.YtpjhjjdhibnciaaGreatDoor.topGone
