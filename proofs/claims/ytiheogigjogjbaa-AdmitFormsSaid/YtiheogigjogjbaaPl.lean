/- The table of the plain terms. -/
import Derived.Test.YtiheogigjogjbaaPl0
import Derived.Test.YtiheogigjogjbaaPl1
namespace Go.Proofs.Ytiheogigjogjbaa
noncomputable def tabAll : List (Nat × G) := tab0 ++ (tab1)
theorem tabAll_ok [Toks] : AllG Try.prog tabAll := .append tab0_ok (tab1_ok)
end Go.Proofs.Ytiheogigjogjbaa
