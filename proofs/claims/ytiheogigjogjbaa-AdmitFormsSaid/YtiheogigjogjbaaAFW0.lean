/- What the plain terms find of AdmitForms: a part of the leaves. -/
import Derived.Test.YtiheogigjogjbaaAFWD
namespace Go.Proofs.Ytiheogigjogjbaa.admitForms
set_option maxRecDepth 1000000
theorem all0 : (([(0, 99)] : List (Nat × Nat)).all fun c => at_ [(0, 25, 100, 0, 0), (1, 100, 101, 0, 0), (2, 100, 102, c.1, c.2)]) = true := by kernel_rfl
theorem all1 : (([(0, 99)] : List (Nat × Nat)).all fun c => at_ [(0, 25, 100, 0, 0), (1, 100, 101, 1, 99), (2, 100, 102, c.1, c.2)]) = true := by kernel_rfl
theorem all2 : (([(0, 99)] : List (Nat × Nat)).all fun c => at_ [(0, 25, 100, 1, 24), (1, 100, 101, 0, 0), (2, 100, 102, c.1, c.2)]) = true := by kernel_rfl
theorem all3 : (([(0, 99)] : List (Nat × Nat)).all fun c => at_ [(0, 25, 100, 1, 24), (1, 100, 101, 1, 99), (2, 100, 102, c.1, c.2)]) = true := by kernel_rfl
end Go.Proofs.Ytiheogigjogjbaa.admitForms
