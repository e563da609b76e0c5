/- (This law has no call of Within.) -/
import Derived.Test.YtikbklfbinanpaaGreatDoorRows
import Derived.Test.YtikbklfbinanpaaGreatDoorBase
namespace Go.Proofs.YtikbklfbinanpaaGreatDoor
open Go.ChangeShapes Go.WideShapes Go.ChangeAt Go.RowKit
end Go.Proofs.YtikbklfbinanpaaGreatDoor
