/- What the plain terms find of TopFuses: a part of the leaves. -/
import Derived.Test.YtpjhjjdhibnciaaGreatDoorTFWD
namespace Go.Proofs.YtpjhjjdhibnciaaGreatDoor.topFuses
set_option maxRecDepth 1000000
theorem all6 : (([(20, 20), (21, 21), (22, 22), (23, 23)] : List (Nat × Nat)).all fun c => at_ false [(0, 8, 100, 1, 1), (1, 120, 101, c.1, c.2)]) = true := by kernel_rfl
theorem all7 : (([(24, 24), (25, 25), (26, 26), (27, 27)] : List (Nat × Nat)).all fun c => at_ false [(0, 8, 100, 1, 1), (1, 120, 101, c.1, c.2)]) = true := by kernel_rfl
theorem all8 : (([(28, 28), (29, 29), (30, 30), (31, 31)] : List (Nat × Nat)).all fun c => at_ false [(0, 8, 100, 1, 1), (1, 120, 101, c.1, c.2)]) = true := by kernel_rfl
theorem all9 : (([(32, 32), (33, 33), (34, 34), (35, 35)] : List (Nat × Nat)).all fun c => at_ false [(0, 8, 100, 1, 1), (1, 120, 101, c.1, c.2)]) = true := by kernel_rfl
theorem all10 : (([(36, 36), (37, 37), (38, 38), (39, 39)] : List (Nat × Nat)).all fun c => at_ false [(0, 8, 100, 1, 1), (1, 120, 101, c.1, c.2)]) = true := by kernel_rfl
theorem all11 : (([(40, 40), (41, 41), (42, 42), (43, 43)] : List (Nat × Nat)).all fun c => at_ false [(0, 8, 100, 1, 1), (1, 120, 101, c.1, c.2)]) = true := by kernel_rfl
end Go.Proofs.YtpjhjjdhibnciaaGreatDoor.topFuses
