/- What the plain terms find of TopReports: a part of the leaves. -/
import Derived.Test.YtpjhjjdhibnciaaGreatDoorTRWD
namespace Go.Proofs.YtpjhjjdhibnciaaGreatDoor.topReports
set_option maxRecDepth 1000000
theorem all0 : (([(0, 8)] : List (Nat × Nat)).all fun c => at_ [(0, 3, 100, 0, 0), (1, 9, 101, c.1, c.2)]) = true := by kernel_rfl
theorem all1 : (([(0, 0), (1, 1), (2, 2)] : List (Nat × Nat)).all fun c => at_ [(0, 3, 100, 1, 1), (1, 9, 101, c.1, c.2)]) = true := by kernel_rfl
end Go.Proofs.YtpjhjjdhibnciaaGreatDoor.topReports
