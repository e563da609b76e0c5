/- Closed facts of the row: what the function comes to, written out once. -/
import Derived.Test.YtffaicfhcljacaaGreatDoorRows
import Derived.ProofKit
import Derived.SevenTiedAt
namespace Go.Proofs.YtffaicfhcljacaaGreatDoor.keepEpochs
open Go Go.ChangeShapes Go.WideShapes Go.ChangeAt Go.RowKit
set_option maxRecDepth 1000000
theorem clo : Tryz.prog.closure 3 = [3, 10, 67, 16, 81, 43, 105, 180, 106, 182, 264, 265, 181, 255, 261, 327, 256, 322, 257, 323, 324, 258, 325, 326, 353, 259, 260, 262, 263, 139, 208, 289, 140, 209, 286, 172, 243, 210, 80, 82, 142, 141, 179, 143, 144, 145, 77, 130, 202, 203, 30, 204, 287, 205, 83, 71, 131, 132, 206, 288, 343, 365, 366, 378, 379, 367, 368, 380, 381, 390, 391, 146, 211, 212, 126, 198, 76, 135, 127, 213, 151, 290, 344, 369, 382, 124, 90, 153, 152, 218, 154, 199, 219, 295, 220, 296, 235, 314, 350, 370, 371, 383, 385, 386, 384, 297, 201, 200, 278, 165, 291, 84, 147, 138, 207, 214, 292, 293, 79, 73, 215, 75, 20, 134, 159, 294, 164, 233, 190, 234, 312, 313, 308, 12, 11, 68, 69, 123, 125, 70, 128, 129, 72, 13, 74, 133, 78, 136, 137, 14, 15, 17, 18, 85, 19, 21, 22, 23] := by kernel_rfl
theorem inp : Tryz.prog.inPlace 3 = ["math.archTrunc", "math.Float64bits", "math.Float64frombits"] := by unfold Program.inPlace; rw [clo]; kernel_rfl
theorem unf : Tryz.prog.unfollowed 3 = false := by unfold Program.unfollowed; rw [clo]; kernel_rfl
theorem rcs : Tryz.prog.recurses 3 = true := by unfold Program.recurses; rw [unf, clo]; kernel_rfl
theorem vars : Tryz.prog.varsNamed 3 = ["internal/strconv.uint64pow10", "math/bits.deBruijn32tab", "math/bits.deBruijn64tab"] := by unfold Program.varsNamed; rw [clo]; kernel_rfl
theorem goesNot : Tryz.prog.goes 3 = false := by unfold Program.goes; rw [clo, unf]; kernel_rfl
theorem closed : joinedFacts Tryz.prog 3 Tryz.f3 Rows.keepEpochsSpec Rows.keepEpochsRow = true := by unfold joinedFacts; rw [inp, unf, rcs, vars]; kernel_rfl
theorem named : Tryz.prog.funcNamed "hostler/hostlerlaw14.KeepEpochs" = some 3 := by kernel_rfl
theorem goesIt : false = Rows.keepEpochsRow.goesBy Tryz.pinned.checked.prog := by
  have h : Rows.keepEpochsRow.goesBy Tryz.pinned.checked.prog = ((Tryz.prog.funcNamed "hostler/hostlerlaw14.KeepEpochs").any Tryz.prog.goes || false) := rfl
  rw [h, named, Option.any_some, goesNot]
  rfl
end Go.Proofs.YtffaicfhcljacaaGreatDoor.keepEpochs
