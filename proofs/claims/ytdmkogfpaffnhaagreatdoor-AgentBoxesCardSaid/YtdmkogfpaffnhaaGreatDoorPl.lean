/- The table of the plain terms. -/
import Derived.Test.YtdmkogfpaffnhaaGreatDoorPl0
import Derived.Test.YtdmkogfpaffnhaaGreatDoorPl1
import Derived.Test.YtdmkogfpaffnhaaGreatDoorPl2
import Derived.Test.YtdmkogfpaffnhaaGreatDoorPl3
namespace Go.Proofs.YtdmkogfpaffnhaaGreatDoor
noncomputable def tabAll : List (Nat × G) := tab0 ++ (tab1 ++ (tab2 ++ (tab3)))
theorem tabAll_ok [Toks] : AllG Tryz.prog tabAll := .append tab0_ok (.append tab1_ok (.append tab2_ok (tab3_ok)))
end Go.Proofs.YtdmkogfpaffnhaaGreatDoor
