/- What the plain terms find of TopFuses: a part of the leaves. -/
import Derived.Test.YtpjhjjdhibnciaaGreatDoorTFWD
namespace Go.Proofs.YtpjhjjdhibnciaaGreatDoor.topFuses
set_option maxRecDepth 1000000
theorem all48 : (([(8, 8), (9, 9), (10, 10), (11, 11)] : List (Nat × Nat)).all fun c => at_ true [(0, 8, 100, 4, 4), (1, 120, 101, c.1, c.2)]) = true := by kernel_rfl
theorem all49 : (([(12, 12), (13, 13), (14, 14), (15, 15)] : List (Nat × Nat)).all fun c => at_ true [(0, 8, 100, 4, 4), (1, 120, 101, c.1, c.2)]) = true := by kernel_rfl
theorem all50 : (([(16, 16), (17, 17), (18, 119)] : List (Nat × Nat)).all fun c => at_ true [(0, 8, 100, 4, 4), (1, 120, 101, c.1, c.2)]) = true := by kernel_rfl
theorem all51 : (([(0, 119)] : List (Nat × Nat)).all fun c => at_ true [(0, 8, 100, 5, 5), (1, 120, 101, c.1, c.2)]) = true := by kernel_rfl
theorem all52 : (([(0, 119)] : List (Nat × Nat)).all fun c => at_ true [(0, 8, 100, 6, 6), (1, 120, 101, c.1, c.2)]) = true := by kernel_rfl
theorem all53 : (([(0, 119)] : List (Nat × Nat)).all fun c => at_ true [(0, 8, 100, 7, 7), (1, 120, 101, c.1, c.2)]) = true := by kernel_rfl
end Go.Proofs.YtpjhjjdhibnciaaGreatDoor.topFuses
