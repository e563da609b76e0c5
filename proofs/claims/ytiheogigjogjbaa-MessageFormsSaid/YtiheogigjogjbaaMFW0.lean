/- What the plain terms find of MessageForms: a part of the leaves. -/
import Derived.Test.YtiheogigjogjbaaMFWD
namespace Go.Proofs.Ytiheogigjogjbaa.messageForms
set_option maxRecDepth 1000000
theorem all0 : (([(0, 99)] : List (Nat × Nat)).all fun c => at_ [(0, 100, 100, 0, 99), (1, 100, 101, 0, 99), (2, 100, 102, 0, 99), (3, 100, 103, 0, 0), (4, 100, 104, c.1, c.2)]) = true := by kernel_rfl
theorem all1 : (([(0, 99)] : List (Nat × Nat)).all fun c => at_ [(0, 100, 100, 0, 99), (1, 100, 101, 0, 99), (2, 100, 102, 0, 99), (3, 100, 103, 1, 99), (4, 100, 104, c.1, c.2)]) = true := by kernel_rfl
end Go.Proofs.Ytiheogigjogjbaa.messageForms
