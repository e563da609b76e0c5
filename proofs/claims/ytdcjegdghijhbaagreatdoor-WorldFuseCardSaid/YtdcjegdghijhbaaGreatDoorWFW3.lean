/- What the plain terms find of WorldFuse: a part of the leaves. -/
import Derived.Test.YtdcjegdghijhbaaGreatDoorWFWD
namespace Go.Proofs.YtdcjegdghijhbaaGreatDoor.worldFuse
set_option maxRecDepth 1000000
theorem all9 : (([(64, 98)] : List (Nat × Nat)).all fun c => at_ [(0, 6, 100, 1, 1), (1, 99, 101, c.1, c.2)]) = true := by kernel_rfl
theorem all10 : (([(0, 98)] : List (Nat × Nat)).all fun c => at_ [(0, 6, 100, 2, 2), (1, 99, 101, c.1, c.2)]) = true := by kernel_rfl
theorem all11 : (([(0, 98)] : List (Nat × Nat)).all fun c => at_ [(0, 6, 100, 3, 3), (1, 99, 101, c.1, c.2)]) = true := by kernel_rfl
end Go.Proofs.YtdcjegdghijhbaaGreatDoor.worldFuse
