/- What the executor finds of KeepCorrupt: a part of the cases. -/
import Derived.Test.YtpjhjjdhibnciaaGreatDoorKCWD
namespace Go.Proofs.YtpjhjjdhibnciaaGreatDoor.keepCorrupt
set_option maxRecDepth 1000000
theorem all0_0 : (cov0.all fun c0 => chk Tryz.prog c0) = true := by kernel_rfl
end Go.Proofs.YtpjhjjdhibnciaaGreatDoor.keepCorrupt
