/- What the plain terms find of TopFuses: a part of the leaves. -/
import Derived.Test.YtpjhjjdhibnciaaGreatDoorTFWD
namespace Go.Proofs.YtpjhjjdhibnciaaGreatDoor.topFuses
set_option maxRecDepth 1000000
theorem all30 : (([(12, 12), (13, 13), (14, 14), (15, 15)] : List (Nat × Nat)).all fun c => at_ true [(0, 8, 100, 1, 1), (1, 120, 101, c.1, c.2)]) = true := by kernel_rfl
theorem all31 : (([(16, 16), (17, 17), (18, 18), (19, 19)] : List (Nat × Nat)).all fun c => at_ true [(0, 8, 100, 1, 1), (1, 120, 101, c.1, c.2)]) = true := by kernel_rfl
theorem all32 : (([(20, 20), (21, 21), (22, 22), (23, 23)] : List (Nat × Nat)).all fun c => at_ true [(0, 8, 100, 1, 1), (1, 120, 101, c.1, c.2)]) = true := by kernel_rfl
theorem all33 : (([(24, 24), (25, 25), (26, 26), (27, 27)] : List (Nat × Nat)).all fun c => at_ true [(0, 8, 100, 1, 1), (1, 120, 101, c.1, c.2)]) = true := by kernel_rfl
theorem all34 : (([(28, 28), (29, 29), (30, 30), (31, 31)] : List (Nat × Nat)).all fun c => at_ true [(0, 8, 100, 1, 1), (1, 120, 101, c.1, c.2)]) = true := by kernel_rfl
theorem all35 : (([(32, 32), (33, 33), (34, 34), (35, 35)] : List (Nat × Nat)).all fun c => at_ true [(0, 8, 100, 1, 1), (1, 120, 101, c.1, c.2)]) = true := by kernel_rfl
end Go.Proofs.YtpjhjjdhibnciaaGreatDoor.topFuses
