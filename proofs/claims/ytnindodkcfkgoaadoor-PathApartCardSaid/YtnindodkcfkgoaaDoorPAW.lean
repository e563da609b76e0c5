/- The walk of PathApart: the Go text returns true, and writes nothing that was there. -/
import Derived.Test.YtnindodkcfkgoaaDoorPAW0
import Derived.Test.YtnindodkcfkgoaaDoorPAW1
import Derived.Test.YtnindodkcfkgoaaDoorPAW2
namespace Go.Proofs.YtnindodkcfkgoaaDoor.pathApart
open Go.ChangeShapes Go.WideShapes Go.ChangeAt Go.RowKit
set_option linter.unusedVariables false
set_option maxRecDepth 100000 in
set_option maxHeartbeats 16000000 in
theorem walk (a0 : Int) (a1 : Int) (a2 : Int) (a3 : Int) (a4 : Int) (a5 : Int) (w : World) (b0 : -9223372036854775808 ≤ a0 ∧ a0 ≤ 9223372036854775807) (b1 : -9223372036854775808 ≤ a1 ∧ a1 ≤ 9223372036854775807) (b2 : -9223372036854775808 ≤ a2 ∧ a2 ≤ 9223372036854775807) (b3 : -9223372036854775808 ≤ a3 ∧ a3 ≤ 9223372036854775807) (b4 : -9223372036854775808 ≤ a4 ∧ a4 ≤ 9223372036854775807) (b5 : -9223372036854775808 ≤ a5 ∧ a5 ≤ 9223372036854775807) :
    Calls Tryd.prog 4 #[.int .i64 a0, .int .i64 a1, .int .i64 a2, .int .i64 a3, .int .i64 a4, .int .i64 a5] w fun e w' => e = .returned (.bool true) ∧ Below w.heap.size w w' := by
  cases h1 : ((nmA (a0 % 8).toNat).toList == (nmA (a2 % 8).toNat).toList)
  · exact walk0 a0 a1 a2 a3 a4 a5 w b0 b1 b2 b3 b4 b5 h1
  · cases h2 : ((nmA (a1 % 8).toNat).toList == (nmA (a3 % 8).toNat).toList)
    · exact walk1 a0 a1 a2 a3 a4 a5 w b0 b1 b2 b3 b4 b5 ⟨h1, h2⟩
    · exact walk2 a0 a1 a2 a3 a4 a5 w b0 b1 b2 b3 b4 b5 ⟨h1, h2⟩

end Go.Proofs.YtnindodkcfkgoaaDoor.pathApart
