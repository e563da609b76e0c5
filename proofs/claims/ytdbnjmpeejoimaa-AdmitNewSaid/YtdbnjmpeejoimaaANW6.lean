/- What the executor finds of AdmitNew: a part of the cases. -/
import Derived.Test.YtdbnjmpeejoimaaANWD
namespace Go.Proofs.Ytdbnjmpeejoimaa.admitNew
set_option maxRecDepth 1000000
theorem all6_0 : (([(6, 6)] : List (Nat × Nat)).all fun c0 => ([(0, 0), (1, 1)] : List (Nat × Nat)).all fun c1 => cov2.all fun c2 => chk Try.prog c0 c1 c2) = true := by kernel_rfl
theorem all6_1 : (([(6, 6)] : List (Nat × Nat)).all fun c0 => ([(2, 2), (3, 3)] : List (Nat × Nat)).all fun c1 => cov2.all fun c2 => chk Try.prog c0 c1 c2) = true := by kernel_rfl
theorem all6_2 : (([(6, 6)] : List (Nat × Nat)).all fun c0 => ([(4, 4), (5, 5)] : List (Nat × Nat)).all fun c1 => cov2.all fun c2 => chk Try.prog c0 c1 c2) = true := by kernel_rfl
theorem all6_3 : (([(6, 6)] : List (Nat × Nat)).all fun c0 => ([(6, 6), (7, 7)] : List (Nat × Nat)).all fun c1 => cov2.all fun c2 => chk Try.prog c0 c1 c2) = true := by kernel_rfl
end Go.Proofs.Ytdbnjmpeejoimaa.admitNew
