/- The table of the plain terms. -/
import Derived.Test.YtikbklfbinanpaaGreatDoorPlA0
import Derived.Test.YtikbklfbinanpaaGreatDoorPlA1
namespace Go.Proofs.YtikbklfbinanpaaGreatDoor
noncomputable def tabAll : List (Nat × G) := tab0 ++ (tab1)
theorem tabAll_ok [Toks] : AllG Tryz.prog tabAll := .append tab0_ok (tab1_ok)
end Go.Proofs.YtikbklfbinanpaaGreatDoor
