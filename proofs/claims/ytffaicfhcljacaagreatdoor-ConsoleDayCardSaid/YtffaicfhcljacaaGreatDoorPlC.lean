/- The table of the plain terms. -/
import Derived.Test.YtffaicfhcljacaaGreatDoorPlC0
import Derived.Test.YtffaicfhcljacaaGreatDoorPlC1
import Derived.Test.YtffaicfhcljacaaGreatDoorPlC2
namespace Go.Proofs.YtffaicfhcljacaaGreatDoor
noncomputable def tabAll : List (Nat × G) := tab0 ++ (tab1 ++ (tab2))
theorem tabAll_ok [Toks] : AllG Tryz.prog tabAll := .append tab0_ok (.append tab1_ok (tab2_ok))
end Go.Proofs.YtffaicfhcljacaaGreatDoor
