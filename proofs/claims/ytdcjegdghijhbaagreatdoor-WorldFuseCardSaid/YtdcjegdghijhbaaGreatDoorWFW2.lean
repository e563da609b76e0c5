/- What the plain terms find of WorldFuse: a part of the leaves. -/
import Derived.Test.YtdcjegdghijhbaaGreatDoorWFWD
namespace Go.Proofs.YtdcjegdghijhbaaGreatDoor.worldFuse
set_option maxRecDepth 1000000
theorem all6 : (([(40, 40), (41, 41), (42, 42), (43, 43), (44, 44), (45, 45), (46, 46), (47, 47)] : List (Nat × Nat)).all fun c => at_ [(0, 6, 100, 1, 1), (1, 99, 101, c.1, c.2)]) = true := by kernel_rfl
theorem all7 : (([(48, 48), (49, 49), (50, 50), (51, 51), (52, 52), (53, 53), (54, 54), (55, 55)] : List (Nat × Nat)).all fun c => at_ [(0, 6, 100, 1, 1), (1, 99, 101, c.1, c.2)]) = true := by kernel_rfl
theorem all8 : (([(56, 56), (57, 57), (58, 58), (59, 59), (60, 60), (61, 61), (62, 62), (63, 63)] : List (Nat × Nat)).all fun c => at_ [(0, 6, 100, 1, 1), (1, 99, 101, c.1, c.2)]) = true := by kernel_rfl
end Go.Proofs.YtdcjegdghijhbaaGreatDoor.worldFuse
