/- The table of the plain terms. -/
import Derived.Test.YtolignkahfekbaaGreatDoorPlA0
import Derived.Test.YtolignkahfekbaaGreatDoorPlA1
namespace Go.Proofs.YtolignkahfekbaaGreatDoor
noncomputable def tabAll : List (Nat × G) := tab0 ++ (tab1)
theorem tabAll_ok [Toks] : AllG Tryz.prog tabAll := .append tab0_ok (tab1_ok)
end Go.Proofs.YtolignkahfekbaaGreatDoor
