/- The table of the plain terms. -/
import Derived.Test.YtpfloofjnpgbeaaPl0
namespace Go.Proofs.Ytpfloofjnpgbeaa
noncomputable def tabAll : List (Nat × G) := tab0
theorem tabAll_ok [Toks] : AllG Try.prog tabAll := tab0_ok
end Go.Proofs.Ytpfloofjnpgbeaa
