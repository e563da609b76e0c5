/- What the executor finds of KeepErrors: a part of the cases. -/
import Derived.Test.YtpjhjjdhibnciaaGreatDoorKEWD
namespace Go.Proofs.YtpjhjjdhibnciaaGreatDoor.keepErrors
set_option maxRecDepth 1000000
theorem all6_0 : (([(60, 60), (61, 61), (62, 62), (63, 63), (64, 64), (65, 65), (66, 66), (67, 67), (68, 68), (69, 69)] : List (Nat × Nat)).all fun c0 => chk Tryz.prog c0) = true := by kernel_rfl
theorem all7_0 : (([(70, 70), (71, 71), (72, 72), (73, 73), (74, 74), (75, 75), (76, 76), (77, 77), (78, 78), (79, 79)] : List (Nat × Nat)).all fun c0 => chk Tryz.prog c0) = true := by kernel_rfl
theorem all8_0 : (([(80, 80), (81, 81), (82, 82), (83, 83), (84, 84), (85, 85), (86, 86), (87, 87), (88, 88), (89, 89)] : List (Nat × Nat)).all fun c0 => chk Tryz.prog c0) = true := by kernel_rfl
end Go.Proofs.YtpjhjjdhibnciaaGreatDoor.keepErrors
