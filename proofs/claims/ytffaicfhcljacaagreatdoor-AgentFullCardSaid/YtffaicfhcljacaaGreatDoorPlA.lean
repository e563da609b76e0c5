/- The table of the plain terms. -/
import Derived.Test.YtffaicfhcljacaaGreatDoorPlA0
import Derived.Test.YtffaicfhcljacaaGreatDoorPlA1
namespace Go.Proofs.YtffaicfhcljacaaGreatDoor
noncomputable def tabAll : List (Nat × G) := tab0 ++ (tab1)
theorem tabAll_ok [Toks] : AllG Tryz.prog tabAll := .append tab0_ok (tab1_ok)
end Go.Proofs.YtffaicfhcljacaaGreatDoor
