/- What the executor finds of KeepErrors: a part of the cases. -/
import Derived.Test.YtpjhjjdhibnciaaGreatDoorKEWD
namespace Go.Proofs.YtpjhjjdhibnciaaGreatDoor.keepErrors
set_option maxRecDepth 1000000
theorem all3_0 : (([(30, 30), (31, 31), (32, 32), (33, 33), (34, 34), (35, 35), (36, 36), (37, 37), (38, 38), (39, 39)] : List (Nat × Nat)).all fun c0 => chk Tryz.prog c0) = true := by kernel_rfl
theorem all4_0 : (([(40, 40), (41, 41), (42, 42), (43, 43), (44, 44), (45, 45), (46, 46), (47, 47), (48, 48), (49, 49)] : List (Nat × Nat)).all fun c0 => chk Tryz.prog c0) = true := by kernel_rfl
theorem all5_0 : (([(50, 50), (51, 51), (52, 52), (53, 53), (54, 54), (55, 55), (56, 56), (57, 57), (58, 58), (59, 59)] : List (Nat × Nat)).all fun c0 => chk Tryz.prog c0) = true := by kernel_rfl
end Go.Proofs.YtpjhjjdhibnciaaGreatDoor.keepErrors
