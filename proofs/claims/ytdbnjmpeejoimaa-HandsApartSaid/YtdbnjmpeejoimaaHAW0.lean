/- What the executor finds of HandsApart: a part of the cases. -/
import Derived.Test.YtdbnjmpeejoimaaHAWD
namespace Go.Proofs.Ytdbnjmpeejoimaa.handsApart
set_option maxRecDepth 1000000
theorem all0_0 : (cov0.all fun c0 => chk Try.prog c0) = true := by kernel_rfl
end Go.Proofs.Ytdbnjmpeejoimaa.handsApart
