/- What the plain terms find of TopGone: a part of the leaves. -/
import Derived.Test.YtpjhjjdhibnciaaGreatDoorTGWD
namespace Go.Proofs.YtpjhjjdhibnciaaGreatDoor.topGone
set_option maxRecDepth 1000000
theorem all60 : (([(4, 4), (5, 8)] : List (Nat × Nat)).all fun c => at_ true [(2, 3, 100, 0, 0), (0, 12, 101, 4, 4), (1, 9, 102, c.1, c.2)]) = true := by kernel_rfl
theorem all61 : (([(0, 8)] : List (Nat × Nat)).all fun c => at_ true [(2, 3, 100, 0, 0), (0, 12, 101, 5, 5), (1, 9, 102, c.1, c.2)]) = true := by kernel_rfl
theorem all62 : (([(0, 8)] : List (Nat × Nat)).all fun c => at_ true [(2, 3, 100, 0, 0), (0, 12, 101, 6, 6), (1, 9, 102, c.1, c.2)]) = true := by kernel_rfl
theorem all63 : (([(0, 8)] : List (Nat × Nat)).all fun c => at_ true [(2, 3, 100, 0, 0), (0, 12, 101, 7, 7), (1, 9, 102, c.1, c.2)]) = true := by kernel_rfl
theorem all64 : (([(0, 8)] : List (Nat × Nat)).all fun c => at_ true [(2, 3, 100, 0, 0), (0, 12, 101, 8, 8), (1, 9, 102, c.1, c.2)]) = true := by kernel_rfl
theorem all65 : (([(0, 8)] : List (Nat × Nat)).all fun c => at_ true [(2, 3, 100, 0, 0), (0, 12, 101, 9, 9), (1, 9, 102, c.1, c.2)]) = true := by kernel_rfl
theorem all66 : (([(0, 8)] : List (Nat × Nat)).all fun c => at_ true [(2, 3, 100, 0, 0), (0, 12, 101, 10, 10), (1, 9, 102, c.1, c.2)]) = true := by kernel_rfl
theorem all67 : (([(0, 8)] : List (Nat × Nat)).all fun c => at_ true [(2, 3, 100, 0, 0), (0, 12, 101, 11, 11), (1, 9, 102, c.1, c.2)]) = true := by kernel_rfl
theorem all68 : (([(0, 8)] : List (Nat × Nat)).all fun c => at_ true [(2, 3, 100, 1, 1), (0, 12, 101, 0, 0), (1, 9, 102, c.1, c.2)]) = true := by kernel_rfl
theorem all69 : (([(0, 8)] : List (Nat × Nat)).all fun c => at_ true [(2, 3, 100, 1, 1), (0, 12, 101, 1, 1), (1, 9, 102, c.1, c.2)]) = true := by kernel_rfl
theorem all70 : (([(0, 8)] : List (Nat × Nat)).all fun c => at_ true [(2, 3, 100, 1, 1), (0, 12, 101, 2, 2), (1, 9, 102, c.1, c.2)]) = true := by kernel_rfl
theorem all71 : (([(0, 8)] : List (Nat × Nat)).all fun c => at_ true [(2, 3, 100, 1, 1), (0, 12, 101, 3, 3), (1, 9, 102, c.1, c.2)]) = true := by kernel_rfl
end Go.Proofs.YtpjhjjdhibnciaaGreatDoor.topGone
