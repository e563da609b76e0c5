/- What the executor finds of KeepErrors: a part of the cases. -/
import Derived.Test.YtpjhjjdhibnciaaGreatDoorKEWD
namespace Go.Proofs.YtpjhjjdhibnciaaGreatDoor.keepErrors
set_option maxRecDepth 1000000
theorem all0_0 : (([(0, 0), (1, 1), (2, 2), (3, 3), (4, 4), (5, 5), (6, 6), (7, 7), (8, 8), (9, 9)] : List (Nat × Nat)).all fun c0 => chk Tryz.prog c0) = true := by kernel_rfl
theorem all1_0 : (([(10, 10), (11, 11), (12, 12), (13, 13), (14, 14), (15, 15), (16, 16), (17, 17), (18, 18), (19, 19)] : List (Nat × Nat)).all fun c0 => chk Tryz.prog c0) = true := by kernel_rfl
theorem all2_0 : (([(20, 20), (21, 21), (22, 22), (23, 23), (24, 24), (25, 25), (26, 26), (27, 27), (28, 28), (29, 29)] : List (Nat × Nat)).all fun c0 => chk Tryz.prog c0) = true := by kernel_rfl
end Go.Proofs.YtpjhjjdhibnciaaGreatDoor.keepErrors
