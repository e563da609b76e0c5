/- The table of the plain terms. -/
import Derived.Test.YtlljepgfecodoaaPl0
namespace Go.Proofs.Ytlljepgfecodoaa
noncomputable def tabAll : List (Nat × G) := tab0
theorem tabAll_ok [Toks] : AllG Try.prog tabAll := tab0_ok
end Go.Proofs.Ytlljepgfecodoaa
