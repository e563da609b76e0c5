/- What the plain terms find of TopGone: a part of the leaves. -/
import Derived.Test.YtpjhjjdhibnciaaGreatDoorTGWD
namespace Go.Proofs.YtpjhjjdhibnciaaGreatDoor.topGone
set_option maxRecDepth 1000000
theorem all72 : (([(0, 0), (1, 1)] : List (Nat × Nat)).all fun c => at_ true [(2, 3, 100, 1, 1), (0, 12, 101, 4, 4), (1, 9, 102, c.1, c.2)]) = true := by kernel_rfl
theorem all73 : (([(2, 2), (3, 3)] : List (Nat × Nat)).all fun c => at_ true [(2, 3, 100, 1, 1), (0, 12, 101, 4, 4), (1, 9, 102, c.1, c.2)]) = true := by kernel_rfl
theorem all74 : (([(4, 4), (5, 8)] : List (Nat × Nat)).all fun c => at_ true [(2, 3, 100, 1, 1), (0, 12, 101, 4, 4), (1, 9, 102, c.1, c.2)]) = true := by kernel_rfl
theorem all75 : (([(0, 8)] : List (Nat × Nat)).all fun c => at_ true [(2, 3, 100, 1, 1), (0, 12, 101, 5, 5), (1, 9, 102, c.1, c.2)]) = true := by kernel_rfl
theorem all76 : (([(0, 0), (1, 1)] : List (Nat × Nat)).all fun c => at_ true [(2, 3, 100, 1, 1), (0, 12, 101, 6, 6), (1, 9, 102, c.1, c.2)]) = true := by kernel_rfl
theorem all77 : (([(2, 2), (3, 3)] : List (Nat × Nat)).all fun c => at_ true [(2, 3, 100, 1, 1), (0, 12, 101, 6, 6), (1, 9, 102, c.1, c.2)]) = true := by kernel_rfl
theorem all78 : (([(4, 4), (5, 8)] : List (Nat × Nat)).all fun c => at_ true [(2, 3, 100, 1, 1), (0, 12, 101, 6, 6), (1, 9, 102, c.1, c.2)]) = true := by kernel_rfl
theorem all79 : (([(0, 8)] : List (Nat × Nat)).all fun c => at_ true [(2, 3, 100, 1, 1), (0, 12, 101, 7, 7), (1, 9, 102, c.1, c.2)]) = true := by kernel_rfl
theorem all80 : (([(0, 8)] : List (Nat × Nat)).all fun c => at_ true [(2, 3, 100, 1, 1), (0, 12, 101, 8, 8), (1, 9, 102, c.1, c.2)]) = true := by kernel_rfl
theorem all81 : (([(0, 8)] : List (Nat × Nat)).all fun c => at_ true [(2, 3, 100, 1, 1), (0, 12, 101, 9, 9), (1, 9, 102, c.1, c.2)]) = true := by kernel_rfl
theorem all82 : (([(0, 8)] : List (Nat × Nat)).all fun c => at_ true [(2, 3, 100, 1, 1), (0, 12, 101, 10, 10), (1, 9, 102, c.1, c.2)]) = true := by kernel_rfl
theorem all83 : (([(0, 8)] : List (Nat × Nat)).all fun c => at_ true [(2, 3, 100, 1, 1), (0, 12, 101, 11, 11), (1, 9, 102, c.1, c.2)]) = true := by kernel_rfl
end Go.Proofs.YtpjhjjdhibnciaaGreatDoor.topGone
