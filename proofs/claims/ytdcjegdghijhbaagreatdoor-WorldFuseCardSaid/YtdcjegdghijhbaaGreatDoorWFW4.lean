/- What the plain terms find of WorldFuse: a part of the leaves. -/
import Derived.Test.YtdcjegdghijhbaaGreatDoorWFWD
namespace Go.Proofs.YtdcjegdghijhbaaGreatDoor.worldFuse
set_option maxRecDepth 1000000
theorem all12 : (([(0, 0), (1, 1), (2, 2), (3, 3), (4, 4), (5, 5), (6, 6), (7, 7)] : List (Nat × Nat)).all fun c => at_ [(0, 6, 100, 4, 4), (1, 99, 101, c.1, c.2)]) = true := by kernel_rfl
theorem all13 : (([(8, 8), (9, 9), (10, 98)] : List (Nat × Nat)).all fun c => at_ [(0, 6, 100, 4, 4), (1, 99, 101, c.1, c.2)]) = true := by kernel_rfl
theorem all14 : (([(0, 98)] : List (Nat × Nat)).all fun c => at_ [(0, 6, 100, 5, 5), (1, 99, 101, c.1, c.2)]) = true := by kernel_rfl
end Go.Proofs.YtdcjegdghijhbaaGreatDoor.worldFuse
