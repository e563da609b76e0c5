/- Closed facts of the row: what the function comes to, written out once. -/
import Derived.Test.YtbioljbiohdflaaGreatDoorRows
import Derived.ProofKit
import Derived.SevenTiedAt
namespace Go.Proofs.YtbioljbiohdflaaGreatDoor.worldDown
open Go Go.ChangeShapes Go.WideShapes Go.ChangeAt Go.RowKit
set_option maxRecDepth 1000000
theorem clo : Tryz.prog.closure 3 = [3, 4, 6, 5, 15, 27, 49, 95, 154, 211, 212, 247, 249, 250, 248, 16, 17, 28, 50, 36, 69, 122, 70, 124, 185, 186, 123, 176, 182, 236, 177, 231, 178, 232, 233, 179, 234, 235, 255, 180, 181, 183, 184, 96, 155, 213, 64, 117, 174, 63, 116, 118, 38, 51, 98, 97, 156, 99, 100, 101, 102, 103, 157, 158, 214, 159, 215, 160, 52, 104, 161, 162, 216, 251, 258, 264, 265, 269, 270, 266, 267, 271, 272, 273, 274, 105, 163, 164, 165, 217, 167, 221, 168, 166, 72, 218, 252, 259, 268, 219, 40, 74, 73, 125, 75, 127, 126, 187, 128, 188, 189, 129, 253, 260, 220, 53, 106, 170, 224, 169, 222, 223, 37, 171, 172, 120, 119, 138, 65, 225, 82, 144, 208, 145, 209, 210, 204, 29, 30, 31, 55, 107, 24, 54, 32, 56, 108, 33, 57, 110, 115, 109, 58, 111, 62, 112, 152, 173, 226, 227, 254, 261, 59, 60, 113, 61, 84, 114, 34, 35, 66, 67, 68, 121, 146, 175, 229, 228, 230, 147, 7, 18, 19, 8, 9, 20, 39, 71, 41, 76, 130, 190, 131, 45, 132, 133, 191, 238, 237, 134, 135, 136, 192, 239, 193, 240, 77, 137, 78, 46, 85, 86, 87, 148, 79, 139, 194, 206, 196, 243, 242, 195, 241, 197, 244, 256, 262, 263, 257, 198, 199, 200, 245, 93, 140, 141, 201, 246, 142, 13, 25, 202, 203, 143, 205, 207, 42, 81, 80, 21, 43, 10, 22, 44, 83, 47, 88, 89, 149, 48, 91, 90, 150, 92, 151, 94, 153, 11, 23, 12, 14, 26] := by kernel_rfl
theorem inp : Tryz.prog.inPlace 3 = ["math.archTrunc", "math.Float64bits", "math.Float64frombits", "slices.overlaps[hostler/bin.Box]"] := by unfold Program.inPlace; rw [clo]; kernel_rfl
theorem unf : Tryz.prog.unfollowed 3 = true := by unfold Program.unfollowed; rw [clo]; kernel_rfl
theorem rcs : Tryz.prog.recurses 3 = true := by unfold Program.recurses; rw [unf]; rfl
theorem vars : Tryz.prog.varsNamed 3 = ["internal/strconv.uint64pow10", "math/bits.deBruijn32tab", "math/bits.deBruijn64tab"] := by unfold Program.varsNamed; rw [clo]; kernel_rfl
theorem goesNot : Tryz.prog.goes 3 = false := by unfold Program.goes; rw [clo, unf]; kernel_rfl
theorem closed : joinedFacts Tryz.prog 3 Tryz.f3 Rows.worldDownSpec Rows.worldDownRow = true := by unfold joinedFacts; rw [inp, unf, rcs, vars]; kernel_rfl
theorem named : Tryz.prog.funcNamed "hostler/hostlerlaw20.WorldDown" = some 3 := by kernel_rfl
theorem goesIt : false = Rows.worldDownRow.goesBy Tryz.pinned.checked.prog := by
  have h : Rows.worldDownRow.goesBy Tryz.pinned.checked.prog = ((Tryz.prog.funcNamed "hostler/hostlerlaw20.WorldDown").any Tryz.prog.goes || false) := rfl
  rw [h, named, Option.any_some, goesNot]
  rfl
end Go.Proofs.YtbioljbiohdflaaGreatDoor.worldDown
