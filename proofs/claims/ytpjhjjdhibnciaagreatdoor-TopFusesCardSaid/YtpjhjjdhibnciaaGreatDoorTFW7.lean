/- What the plain terms find of TopFuses: a part of the leaves. -/
import Derived.Test.YtpjhjjdhibnciaaGreatDoorTFWD
namespace Go.Proofs.YtpjhjjdhibnciaaGreatDoor.topFuses
set_option maxRecDepth 1000000
theorem all42 : (([(60, 60), (61, 61), (62, 62), (63, 63)] : List (Nat × Nat)).all fun c => at_ true [(0, 8, 100, 1, 1), (1, 120, 101, c.1, c.2)]) = true := by kernel_rfl
theorem all43 : (([(64, 119)] : List (Nat × Nat)).all fun c => at_ true [(0, 8, 100, 1, 1), (1, 120, 101, c.1, c.2)]) = true := by kernel_rfl
theorem all44 : (([(0, 119)] : List (Nat × Nat)).all fun c => at_ true [(0, 8, 100, 2, 2), (1, 120, 101, c.1, c.2)]) = true := by kernel_rfl
theorem all45 : (([(0, 119)] : List (Nat × Nat)).all fun c => at_ true [(0, 8, 100, 3, 3), (1, 120, 101, c.1, c.2)]) = true := by kernel_rfl
theorem all46 : (([(0, 0), (1, 1), (2, 2), (3, 3)] : List (Nat × Nat)).all fun c => at_ true [(0, 8, 100, 4, 4), (1, 120, 101, c.1, c.2)]) = true := by kernel_rfl
theorem all47 : (([(4, 4), (5, 5), (6, 6), (7, 7)] : List (Nat × Nat)).all fun c => at_ true [(0, 8, 100, 4, 4), (1, 120, 101, c.1, c.2)]) = true := by kernel_rfl
end Go.Proofs.YtpjhjjdhibnciaaGreatDoor.topFuses
