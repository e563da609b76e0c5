/- The calls that are taken as known, Clone of a disk among them. -/
import Derived.Test.YtijpidopagogoaaAllSum
import Derived.Test.YtijpidopagogoaaSumClone
namespace Go.Proofs.Ytijpidopagogoaa
open Go Go.RowKit
def summD : XCall := orS summClone summAll
theorem summD_ok [Toks] : CallOk Try.prog summD := orS_ok summClone_ok summAll_ok
theorem summD_mono : CallMono summD := orS_mono summClone_mono summAll_mono
end Go.Proofs.Ytijpidopagogoaa
