/- What the plain terms find of TopGone: a part of the leaves. -/
import Derived.Test.YtpjhjjdhibnciaaGreatDoorTGWD
namespace Go.Proofs.YtpjhjjdhibnciaaGreatDoor.topGone
set_option maxRecDepth 1000000
theorem all96 : (([(0, 0), (1, 1)] : List (Nat × Nat)).all fun c => at_ true [(2, 3, 100, 2, 2), (0, 12, 101, 8, 8), (1, 9, 102, c.1, c.2)]) = true := by kernel_rfl
theorem all97 : (([(2, 2), (3, 3)] : List (Nat × Nat)).all fun c => at_ true [(2, 3, 100, 2, 2), (0, 12, 101, 8, 8), (1, 9, 102, c.1, c.2)]) = true := by kernel_rfl
theorem all98 : (([(4, 4), (5, 8)] : List (Nat × Nat)).all fun c => at_ true [(2, 3, 100, 2, 2), (0, 12, 101, 8, 8), (1, 9, 102, c.1, c.2)]) = true := by kernel_rfl
theorem all99 : (([(0, 8)] : List (Nat × Nat)).all fun c => at_ true [(2, 3, 100, 2, 2), (0, 12, 101, 9, 9), (1, 9, 102, c.1, c.2)]) = true := by kernel_rfl
theorem all100 : (([(0, 8)] : List (Nat × Nat)).all fun c => at_ true [(2, 3, 100, 2, 2), (0, 12, 101, 10, 10), (1, 9, 102, c.1, c.2)]) = true := by kernel_rfl
theorem all101 : (([(0, 8)] : List (Nat × Nat)).all fun c => at_ true [(2, 3, 100, 2, 2), (0, 12, 101, 11, 11), (1, 9, 102, c.1, c.2)]) = true := by kernel_rfl
end Go.Proofs.YtpjhjjdhibnciaaGreatDoor.topGone
