/- What the plain terms find of DiskOwn, by the length of its bytes and its first one. -/
import Derived.Test.YtijpidopagogoaaSumD
import Derived.Test.YtijpidopagogoaaPlO
import Derived.Test.YtijpidopagogoaaArgsH
namespace Go.Proofs.Ytijpidopagogoaa.diskOwn
set_option linter.unusedVariables false
def cfg : Cfg := ⟨fun _ => true, fun _ _ => none, summD⟩
noncomputable def run (v0 : Value) (h : AHeap) : Bool := yes (gcall (mkTab tabAll) (deep Try.prog cfg 3000) 60 6 [v0] h)
end Go.Proofs.Ytijpidopagogoaa.diskOwn
