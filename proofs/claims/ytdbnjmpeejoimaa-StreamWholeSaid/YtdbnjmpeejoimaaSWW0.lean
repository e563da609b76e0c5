/- What the plain terms find of StreamWhole: a part of the leaves. -/
import Derived.Test.YtdbnjmpeejoimaaSWWD
namespace Go.Proofs.Ytdbnjmpeejoimaa.streamWhole
set_option maxRecDepth 1000000
theorem all0 : (([(0, 0), (1, 1)] : List (Nat × Nat)).all fun c => at_ false [(0, 4, 100, 0, 0), (1, 1000, 101, 0, 999), (2, 5000003, 102, c.1, c.2)]) = true := by kernel_rfl
theorem all1 : (([(0, 0), (1, 1)] : List (Nat × Nat)).all fun c => at_ false [(0, 4, 100, 1, 1), (1, 1000, 101, 0, 999), (2, 5000003, 102, c.1, c.2)]) = true := by kernel_rfl
theorem all2 : (([(0, 0), (1, 1)] : List (Nat × Nat)).all fun c => at_ false [(0, 4, 100, 2, 2), (1, 1000, 101, 0, 999), (2, 5000003, 102, c.1, c.2)]) = true := by kernel_rfl
theorem all3 : (([(0, 0), (1, 1)] : List (Nat × Nat)).all fun c => at_ false [(0, 4, 100, 3, 3), (1, 1000, 101, 0, 999), (2, 5000003, 102, c.1, c.2)]) = true := by kernel_rfl
theorem all4 : (([(0, 0), (1, 1)] : List (Nat × Nat)).all fun c => at_ true [(0, 4, 100, 0, 0), (1, 1000, 101, 0, 999), (2, 5000003, 102, c.1, c.2)]) = true := by kernel_rfl
theorem all5 : (([(0, 0), (1, 1)] : List (Nat × Nat)).all fun c => at_ true [(0, 4, 100, 1, 1), (1, 1000, 101, 0, 999), (2, 5000003, 102, c.1, c.2)]) = true := by kernel_rfl
theorem all6 : (([(0, 0), (1, 1)] : List (Nat × Nat)).all fun c => at_ true [(0, 4, 100, 2, 2), (1, 1000, 101, 0, 999), (2, 5000003, 102, c.1, c.2)]) = true := by kernel_rfl
theorem all7 : (([(0, 0), (1, 1)] : List (Nat × Nat)).all fun c => at_ true [(0, 4, 100, 3, 3), (1, 1000, 101, 0, 999), (2, 5000003, 102, c.1, c.2)]) = true := by kernel_rfl
end Go.Proofs.Ytdbnjmpeejoimaa.streamWhole
