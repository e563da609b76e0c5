/- What the plain terms find of WorldFuse: a part of the leaves. -/
import Derived.Test.YtdcjegdghijhbaaGreatDoorWFWD
namespace Go.Proofs.YtdcjegdghijhbaaGreatDoor.worldFuse
set_option maxRecDepth 1000000
theorem all3 : (([(16, 16), (17, 17), (18, 18), (19, 19), (20, 20), (21, 21), (22, 22), (23, 23)] : List (Nat × Nat)).all fun c => at_ [(0, 6, 100, 1, 1), (1, 99, 101, c.1, c.2)]) = true := by kernel_rfl
theorem all4 : (([(24, 24), (25, 25), (26, 26), (27, 27), (28, 28), (29, 29), (30, 30), (31, 31)] : List (Nat × Nat)).all fun c => at_ [(0, 6, 100, 1, 1), (1, 99, 101, c.1, c.2)]) = true := by kernel_rfl
theorem all5 : (([(32, 32), (33, 33), (34, 34), (35, 35), (36, 36), (37, 37), (38, 38), (39, 39)] : List (Nat × Nat)).all fun c => at_ [(0, 6, 100, 1, 1), (1, 99, 101, c.1, c.2)]) = true := by kernel_rfl
end Go.Proofs.YtdcjegdghijhbaaGreatDoor.worldFuse
