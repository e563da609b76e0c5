/- The table of the plain terms. -/
import Derived.Test.YtdbnjmpeejoimaaPl0
import Derived.Test.YtdbnjmpeejoimaaPl1
namespace Go.Proofs.Ytdbnjmpeejoimaa
noncomputable def tabAll : List (Nat × G) := tab0 ++ (tab1)
theorem tabAll_ok [Toks] : AllG Try.prog tabAll := .append tab0_ok (tab1_ok)
end Go.Proofs.Ytdbnjmpeejoimaa
