/- What the executor finds of KeepBytes: a part of the cases. -/
import Derived.Test.YtpjhjjdhibnciaaGreatDoorKBWD
namespace Go.Proofs.YtpjhjjdhibnciaaGreatDoor.keepBytes
set_option maxRecDepth 1000000
theorem all0_0 : (cov0.all fun c0 => chk Tryz.prog c0) = true := by kernel_rfl
end Go.Proofs.YtpjhjjdhibnciaaGreatDoor.keepBytes
