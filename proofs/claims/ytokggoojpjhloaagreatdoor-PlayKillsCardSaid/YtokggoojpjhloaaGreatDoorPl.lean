/- The table of the plain terms. -/
import Derived.Test.YtokggoojpjhloaaGreatDoorPl0
import Derived.Test.YtokggoojpjhloaaGreatDoorPl1
import Derived.Test.YtokggoojpjhloaaGreatDoorPl2
namespace Go.Proofs.YtokggoojpjhloaaGreatDoor
noncomputable def tabAll : List (Nat × G) := tab0 ++ (tab1 ++ (tab2))
theorem tabAll_ok [Toks] : AllG Tryz.prog tabAll := .append tab0_ok (.append tab1_ok (tab2_ok))
end Go.Proofs.YtokggoojpjhloaaGreatDoor
