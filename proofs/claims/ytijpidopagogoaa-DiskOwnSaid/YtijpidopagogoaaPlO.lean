/- The table of the plain terms. -/
import Derived.Test.YtijpidopagogoaaPlO0
namespace Go.Proofs.Ytijpidopagogoaa
noncomputable def tabAll : List (Nat × G) := tab0
theorem tabAll_ok [Toks] : AllG Try.prog tabAll := tab0_ok
end Go.Proofs.Ytijpidopagogoaa
