/- (This law has no call of Within.) -/
import Derived.Test.YtolignkahfekbaaGreatDoorRows
import Derived.Test.YtolignkahfekbaaGreatDoorBase
namespace Go.Proofs.YtolignkahfekbaaGreatDoor
open Go.ChangeShapes Go.WideShapes Go.ChangeAt Go.RowKit
end Go.Proofs.YtolignkahfekbaaGreatDoor
