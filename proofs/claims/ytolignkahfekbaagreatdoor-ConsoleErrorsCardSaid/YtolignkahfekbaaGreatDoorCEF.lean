/- Closed facts of the row: what the function comes to, written out once. -/
import Derived.Test.YtolignkahfekbaaGreatDoorRows
import Derived.ProofKit
import Derived.SevenTiedAt
namespace Go.Proofs.YtolignkahfekbaaGreatDoor.consoleErrors
open Go Go.ChangeShapes Go.WideShapes Go.ChangeAt Go.RowKit
set_option maxRecDepth 1000000
theorem clo : Tryz.prog.closure 3 = [3, 5, 4, 10, 16, 28, 53, 91, 138, 197, 263, 264, 317, 319, 320, 318, 29, 30, 54, 92, 103, 157, 219, 158, 221, 289, 251, 220, 280, 286, 330, 281, 325, 282, 326, 327, 283, 328, 329, 348, 284, 285, 287, 288, 139, 198, 265, 105, 160, 222, 104, 159, 161, 162, 93, 141, 140, 199, 142, 143, 144, 145, 146, 200, 201, 266, 202, 267, 203, 94, 147, 204, 205, 36, 71, 123, 181, 182, 250, 252, 183, 184, 253, 254, 315, 316, 148, 206, 207, 208, 268, 210, 272, 211, 209, 114, 269, 321, 167, 226, 270, 117, 168, 130, 188, 169, 227, 218, 279, 228, 294, 295, 229, 322, 37, 271, 95, 149, 213, 275, 212, 273, 274, 180, 214, 215, 163, 86, 223, 106, 276, 237, 308, 128, 309, 345, 346, 323, 55, 56, 41, 76, 126, 74, 75, 57, 96, 150, 58, 97, 152, 156, 151, 98, 153, 102, 154, 216, 217, 277, 278, 324, 347, 99, 100, 155, 101, 88, 134, 59, 60, 48, 107, 108, 164, 224, 225, 291, 290, 293, 292, 17, 18, 6, 8, 11, 12, 13, 19, 31, 61, 109, 165, 110, 111, 112, 166, 20, 32, 62, 33, 63, 34, 64, 113, 65, 115, 66, 46, 116, 14, 22, 21, 35, 67, 118, 170, 230, 171, 231, 296, 87, 89, 176, 297, 298, 331, 349, 185, 299, 300, 301, 124, 186, 332, 350, 232, 302, 233, 177, 240, 241, 242, 310, 234, 303, 333, 343, 38, 72, 125, 334, 351, 335, 352, 355, 357, 358, 356, 336, 337, 338, 353, 248, 304, 305, 339, 354, 306, 173, 238, 340, 341, 307, 342, 344, 172, 236, 235, 119, 174, 68, 120, 175, 239, 178, 243, 244, 311, 179, 246, 245, 312, 247, 313, 249, 314, 69, 121, 70, 122, 23, 15, 24, 25, 39, 40, 73, 42, 77, 127, 44, 78, 50, 79, 80, 43, 45, 81, 129, 187, 82, 26, 47, 84, 131, 189, 83, 85, 132, 190, 133, 191, 192, 193, 256, 255, 257, 194, 259, 258, 260, 27, 49, 52, 51, 90, 135, 195, 261, 196, 262, 136, 137, 7, 9] := by kernel_rfl
theorem inp : Tryz.prog.inPlace 3 = ["math.archTrunc", "math.Float64bits", "math.Float64frombits", "slices.overlaps[hostler/bin.Box]", "internal/bytealg.IndexByteString", "internal/bytealg.IndexString", "internal/abi.NoEscape", "internal/bytealg.MakeNoZero"] := by unfold Program.inPlace; rw [clo]; kernel_rfl
theorem unf : Tryz.prog.unfollowed 3 = true := by unfold Program.unfollowed; rw [clo]; kernel_rfl
theorem rcs : Tryz.prog.recurses 3 = true := by unfold Program.recurses; rw [unf]; rfl
theorem vars : Tryz.prog.varsNamed 3 = ["internal/strconv.uint64pow10", "math/bits.deBruijn32tab", "math/bits.deBruijn64tab", "internal/bytealg.MaxLen"] := by unfold Program.varsNamed; rw [clo]; kernel_rfl
theorem goesNot : Tryz.prog.goes 3 = false := by unfold Program.goes; rw [clo, unf]; kernel_rfl
theorem closed : joinedFacts Tryz.prog 3 Tryz.f3 Rows.consoleErrorsSpec Rows.consoleErrorsRow = true := by unfold joinedFacts; rw [inp, unf, rcs, vars]; kernel_rfl
theorem named : Tryz.prog.funcNamed "hostler/hostlerlaw26.ConsoleErrors" = some 3 := by kernel_rfl
theorem goesIt : false = Rows.consoleErrorsRow.goesBy Tryz.pinned.checked.prog := by
  have h : Rows.consoleErrorsRow.goesBy Tryz.pinned.checked.prog = ((Tryz.prog.funcNamed "hostler/hostlerlaw26.ConsoleErrors").any Tryz.prog.goes || false) := rfl
  rw [h, named, Option.any_some, goesNot]
  rfl
end Go.Proofs.YtolignkahfekbaaGreatDoor.consoleErrors
