/- What the plain terms find of TopGone: a part of the leaves. -/
import Derived.Test.YtpjhjjdhibnciaaGreatDoorTGWD
namespace Go.Proofs.YtpjhjjdhibnciaaGreatDoor.topGone
set_option maxRecDepth 1000000
theorem all84 : (([(0, 8)] : List (Nat × Nat)).all fun c => at_ true [(2, 3, 100, 2, 2), (0, 12, 101, 0, 0), (1, 9, 102, c.1, c.2)]) = true := by kernel_rfl
theorem all85 : (([(0, 8)] : List (Nat × Nat)).all fun c => at_ true [(2, 3, 100, 2, 2), (0, 12, 101, 1, 1), (1, 9, 102, c.1, c.2)]) = true := by kernel_rfl
theorem all86 : (([(0, 8)] : List (Nat × Nat)).all fun c => at_ true [(2, 3, 100, 2, 2), (0, 12, 101, 2, 2), (1, 9, 102, c.1, c.2)]) = true := by kernel_rfl
theorem all87 : (([(0, 8)] : List (Nat × Nat)).all fun c => at_ true [(2, 3, 100, 2, 2), (0, 12, 101, 3, 3), (1, 9, 102, c.1, c.2)]) = true := by kernel_rfl
theorem all88 : (([(0, 0), (1, 1)] : List (Nat × Nat)).all fun c => at_ true [(2, 3, 100, 2, 2), (0, 12, 101, 4, 4), (1, 9, 102, c.1, c.2)]) = true := by kernel_rfl
theorem all89 : (([(2, 2), (3, 3)] : List (Nat × Nat)).all fun c => at_ true [(2, 3, 100, 2, 2), (0, 12, 101, 4, 4), (1, 9, 102, c.1, c.2)]) = true := by kernel_rfl
theorem all90 : (([(4, 4), (5, 8)] : List (Nat × Nat)).all fun c => at_ true [(2, 3, 100, 2, 2), (0, 12, 101, 4, 4), (1, 9, 102, c.1, c.2)]) = true := by kernel_rfl
theorem all91 : (([(0, 8)] : List (Nat × Nat)).all fun c => at_ true [(2, 3, 100, 2, 2), (0, 12, 101, 5, 5), (1, 9, 102, c.1, c.2)]) = true := by kernel_rfl
theorem all92 : (([(0, 0), (1, 1)] : List (Nat × Nat)).all fun c => at_ true [(2, 3, 100, 2, 2), (0, 12, 101, 6, 6), (1, 9, 102, c.1, c.2)]) = true := by kernel_rfl
theorem all93 : (([(2, 2), (3, 3)] : List (Nat × Nat)).all fun c => at_ true [(2, 3, 100, 2, 2), (0, 12, 101, 6, 6), (1, 9, 102, c.1, c.2)]) = true := by kernel_rfl
theorem all94 : (([(4, 4), (5, 8)] : List (Nat × Nat)).all fun c => at_ true [(2, 3, 100, 2, 2), (0, 12, 101, 6, 6), (1, 9, 102, c.1, c.2)]) = true := by kernel_rfl
theorem all95 : (([(0, 8)] : List (Nat × Nat)).all fun c => at_ true [(2, 3, 100, 2, 2), (0, 12, 101, 7, 7), (1, 9, 102, c.1, c.2)]) = true := by kernel_rfl
end Go.Proofs.YtpjhjjdhibnciaaGreatDoor.topGone
