/- What the plain terms find of TopGone: a part of the leaves. -/
import Derived.Test.YtpjhjjdhibnciaaGreatDoorTGWD
namespace Go.Proofs.YtpjhjjdhibnciaaGreatDoor.topGone
set_option maxRecDepth 1000000
theorem all48 : (([(4, 4), (5, 8)] : List (Nat × Nat)).all fun c => at_ false [(2, 3, 100, 2, 2), (0, 12, 101, 8, 8), (1, 9, 102, c.1, c.2)]) = true := by kernel_rfl
theorem all49 : (([(0, 8)] : List (Nat × Nat)).all fun c => at_ false [(2, 3, 100, 2, 2), (0, 12, 101, 9, 9), (1, 9, 102, c.1, c.2)]) = true := by kernel_rfl
theorem all50 : (([(0, 0), (1, 1)] : List (Nat × Nat)).all fun c => at_ false [(2, 3, 100, 2, 2), (0, 12, 101, 10, 10), (1, 9, 102, c.1, c.2)]) = true := by kernel_rfl
theorem all51 : (([(2, 2), (3, 3)] : List (Nat × Nat)).all fun c => at_ false [(2, 3, 100, 2, 2), (0, 12, 101, 10, 10), (1, 9, 102, c.1, c.2)]) = true := by kernel_rfl
theorem all52 : (([(4, 4), (5, 8)] : List (Nat × Nat)).all fun c => at_ false [(2, 3, 100, 2, 2), (0, 12, 101, 10, 10), (1, 9, 102, c.1, c.2)]) = true := by kernel_rfl
theorem all53 : (([(0, 8)] : List (Nat × Nat)).all fun c => at_ false [(2, 3, 100, 2, 2), (0, 12, 101, 11, 11), (1, 9, 102, c.1, c.2)]) = true := by kernel_rfl
theorem all54 : (([(0, 8)] : List (Nat × Nat)).all fun c => at_ true [(2, 3, 100, 0, 0), (0, 12, 101, 0, 0), (1, 9, 102, c.1, c.2)]) = true := by kernel_rfl
theorem all55 : (([(0, 8)] : List (Nat × Nat)).all fun c => at_ true [(2, 3, 100, 0, 0), (0, 12, 101, 1, 1), (1, 9, 102, c.1, c.2)]) = true := by kernel_rfl
theorem all56 : (([(0, 8)] : List (Nat × Nat)).all fun c => at_ true [(2, 3, 100, 0, 0), (0, 12, 101, 2, 2), (1, 9, 102, c.1, c.2)]) = true := by kernel_rfl
theorem all57 : (([(0, 8)] : List (Nat × Nat)).all fun c => at_ true [(2, 3, 100, 0, 0), (0, 12, 101, 3, 3), (1, 9, 102, c.1, c.2)]) = true := by kernel_rfl
theorem all58 : (([(0, 0), (1, 1)] : List (Nat × Nat)).all fun c => at_ true [(2, 3, 100, 0, 0), (0, 12, 101, 4, 4), (1, 9, 102, c.1, c.2)]) = true := by kernel_rfl
theorem all59 : (([(2, 2), (3, 3)] : List (Nat × Nat)).all fun c => at_ true [(2, 3, 100, 0, 0), (0, 12, 101, 4, 4), (1, 9, 102, c.1, c.2)]) = true := by kernel_rfl
end Go.Proofs.YtpjhjjdhibnciaaGreatDoor.topGone
