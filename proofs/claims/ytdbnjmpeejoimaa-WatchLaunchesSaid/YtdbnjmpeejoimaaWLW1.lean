/- What the executor finds of WatchLaunches: a part of the cases. -/
import Derived.Test.YtdbnjmpeejoimaaWLWD
namespace Go.Proofs.Ytdbnjmpeejoimaa.watchLaunches
set_option maxRecDepth 1000000
theorem all1_0 : (([(10, 10), (11, 11), (12, 12), (13, 13), (14, 14), (15, 15), (16, 16), (17, 17), (18, 18), (19, 19)] : List (Nat × Nat)).all fun c0 => chk Try.prog c0) = true := by kernel_rfl
end Go.Proofs.Ytdbnjmpeejoimaa.watchLaunches
