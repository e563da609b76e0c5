/- The calls that are taken as known, Clone of a disk among them. -/
import Derived.Test.YtdcjegdghijhbaaGreatDoorAllSum
import Derived.Test.YtdcjegdghijhbaaGreatDoorSumClone
namespace Go.Proofs.YtdcjegdghijhbaaGreatDoor
open Go Go.RowKit
def summD : XCall := orS summClone summAll
theorem summD_ok [Toks] : CallOk Tryz.prog summD := orS_ok summClone_ok summAll_ok
theorem summD_mono : CallMono summD := orS_mono summClone_mono summAll_mono
end Go.Proofs.YtdcjegdghijhbaaGreatDoor
