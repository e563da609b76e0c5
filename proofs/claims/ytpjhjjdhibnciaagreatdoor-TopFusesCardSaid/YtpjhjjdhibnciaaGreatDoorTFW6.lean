/- What the plain terms find of TopFuses: a part of the leaves. -/
import Derived.Test.YtpjhjjdhibnciaaGreatDoorTFWD
namespace Go.Proofs.YtpjhjjdhibnciaaGreatDoor.topFuses
set_option maxRecDepth 1000000
theorem all36 : (([(36, 36), (37, 37), (38, 38), (39, 39)] : List (Nat × Nat)).all fun c => at_ true [(0, 8, 100, 1, 1), (1, 120, 101, c.1, c.2)]) = true := by kernel_rfl
theorem all37 : (([(40, 40), (41, 41), (42, 42), (43, 43)] : List (Nat × Nat)).all fun c => at_ true [(0, 8, 100, 1, 1), (1, 120, 101, c.1, c.2)]) = true := by kernel_rfl
theorem all38 : (([(44, 44), (45, 45), (46, 46), (47, 47)] : List (Nat × Nat)).all fun c => at_ true [(0, 8, 100, 1, 1), (1, 120, 101, c.1, c.2)]) = true := by kernel_rfl
theorem all39 : (([(48, 48), (49, 49), (50, 50), (51, 51)] : List (Nat × Nat)).all fun c => at_ true [(0, 8, 100, 1, 1), (1, 120, 101, c.1, c.2)]) = true := by kernel_rfl
theorem all40 : (([(52, 52), (53, 53), (54, 54), (55, 55)] : List (Nat × Nat)).all fun c => at_ true [(0, 8, 100, 1, 1), (1, 120, 101, c.1, c.2)]) = true := by kernel_rfl
theorem all41 : (([(56, 56), (57, 57), (58, 58), (59, 59)] : List (Nat × Nat)).all fun c => at_ true [(0, 8, 100, 1, 1), (1, 120, 101, c.1, c.2)]) = true := by kernel_rfl
end Go.Proofs.YtpjhjjdhibnciaaGreatDoor.topFuses
