/- The table of the plain terms. -/
import Derived.Test.YtdbnjmpeejoimaaDoorPl0
namespace Go.Proofs.YtdbnjmpeejoimaaDoor
noncomputable def tabAll : List (Nat × G) := tab0
theorem tabAll_ok [Toks] : AllG Tryd.prog tabAll := tab0_ok
end Go.Proofs.YtdbnjmpeejoimaaDoor
