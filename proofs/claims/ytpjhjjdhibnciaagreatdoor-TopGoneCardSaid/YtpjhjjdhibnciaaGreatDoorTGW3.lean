/- What the plain terms find of TopGone: a part of the leaves. -/
import Derived.Test.YtpjhjjdhibnciaaGreatDoorTGWD
namespace Go.Proofs.YtpjhjjdhibnciaaGreatDoor.topGone
set_option maxRecDepth 1000000
theorem all36 : (([(0, 8)] : List (Nat × Nat)).all fun c => at_ false [(2, 3, 100, 2, 2), (0, 12, 101, 2, 2), (1, 9, 102, c.1, c.2)]) = true := by kernel_rfl
theorem all37 : (([(0, 8)] : List (Nat × Nat)).all fun c => at_ false [(2, 3, 100, 2, 2), (0, 12, 101, 3, 3), (1, 9, 102, c.1, c.2)]) = true := by kernel_rfl
theorem all38 : (([(0, 0), (1, 1)] : List (Nat × Nat)).all fun c => at_ false [(2, 3, 100, 2, 2), (0, 12, 101, 4, 4), (1, 9, 102, c.1, c.2)]) = true := by kernel_rfl
theorem all39 : (([(2, 2), (3, 3)] : List (Nat × Nat)).all fun c => at_ false [(2, 3, 100, 2, 2), (0, 12, 101, 4, 4), (1, 9, 102, c.1, c.2)]) = true := by kernel_rfl
theorem all40 : (([(4, 4), (5, 8)] : List (Nat × Nat)).all fun c => at_ false [(2, 3, 100, 2, 2), (0, 12, 101, 4, 4), (1, 9, 102, c.1, c.2)]) = true := by kernel_rfl
theorem all41 : (([(0, 8)] : List (Nat × Nat)).all fun c => at_ false [(2, 3, 100, 2, 2), (0, 12, 101, 5, 5), (1, 9, 102, c.1, c.2)]) = true := by kernel_rfl
theorem all42 : (([(0, 0), (1, 1)] : List (Nat × Nat)).all fun c => at_ false [(2, 3, 100, 2, 2), (0, 12, 101, 6, 6), (1, 9, 102, c.1, c.2)]) = true := by kernel_rfl
theorem all43 : (([(2, 2), (3, 3)] : List (Nat × Nat)).all fun c => at_ false [(2, 3, 100, 2, 2), (0, 12, 101, 6, 6), (1, 9, 102, c.1, c.2)]) = true := by kernel_rfl
theorem all44 : (([(4, 4), (5, 8)] : List (Nat × Nat)).all fun c => at_ false [(2, 3, 100, 2, 2), (0, 12, 101, 6, 6), (1, 9, 102, c.1, c.2)]) = true := by kernel_rfl
theorem all45 : (([(0, 8)] : List (Nat × Nat)).all fun c => at_ false [(2, 3, 100, 2, 2), (0, 12, 101, 7, 7), (1, 9, 102, c.1, c.2)]) = true := by kernel_rfl
theorem all46 : (([(0, 0), (1, 1)] : List (Nat × Nat)).all fun c => at_ false [(2, 3, 100, 2, 2), (0, 12, 101, 8, 8), (1, 9, 102, c.1, c.2)]) = true := by kernel_rfl
theorem all47 : (([(2, 2), (3, 3)] : List (Nat × Nat)).all fun c => at_ false [(2, 3, 100, 2, 2), (0, 12, 101, 8, 8), (1, 9, 102, c.1, c.2)]) = true := by kernel_rfl
end Go.Proofs.YtpjhjjdhibnciaaGreatDoor.topGone
