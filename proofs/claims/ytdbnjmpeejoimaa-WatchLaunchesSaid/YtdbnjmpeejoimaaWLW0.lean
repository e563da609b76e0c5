/- What the executor finds of WatchLaunches: a part of the cases. -/
import Derived.Test.YtdbnjmpeejoimaaWLWD
namespace Go.Proofs.Ytdbnjmpeejoimaa.watchLaunches
set_option maxRecDepth 1000000
theorem all0_0 : (([(0, 0), (1, 1), (2, 2), (3, 3), (4, 4), (5, 5), (6, 6), (7, 7), (8, 8), (9, 9)] : List (Nat × Nat)).all fun c0 => chk Try.prog c0) = true := by kernel_rfl
end Go.Proofs.Ytdbnjmpeejoimaa.watchLaunches
