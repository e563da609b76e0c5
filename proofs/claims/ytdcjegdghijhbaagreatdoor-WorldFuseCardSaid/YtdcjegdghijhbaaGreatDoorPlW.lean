/- The table of the plain terms. -/
import Derived.Test.YtdcjegdghijhbaaGreatDoorPlW0
import Derived.Test.YtdcjegdghijhbaaGreatDoorPlW1
namespace Go.Proofs.YtdcjegdghijhbaaGreatDoor
noncomputable def tabAll : List (Nat × G) := tab0 ++ (tab1)
theorem tabAll_ok [Toks] : AllG Tryz.prog tabAll := .append tab0_ok (tab1_ok)
end Go.Proofs.YtdcjegdghijhbaaGreatDoor
