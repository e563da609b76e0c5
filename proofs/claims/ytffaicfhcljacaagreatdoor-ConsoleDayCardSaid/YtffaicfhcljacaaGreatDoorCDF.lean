/- Closed facts of the row: what the function comes to, written out once. -/
import Derived.Test.YtffaicfhcljacaaGreatDoorRows
import Derived.ProofKit
import Derived.SevenTiedAt
namespace Go.Proofs.YtffaicfhcljacaaGreatDoor.consoleDay
open Go Go.ChangeShapes Go.WideShapes Go.ChangeAt Go.RowKit
set_option maxRecDepth 1000000
theorem clo : Tryz.prog.closure 8 = [8, 24, 63, 46, 34, 94, 165, 235, 314, 350, 370, 371, 383, 385, 386, 384, 67, 31, 16, 81, 43, 105, 180, 106, 182, 264, 265, 181, 255, 261, 327, 256, 322, 257, 323, 324, 258, 325, 326, 353, 259, 260, 262, 263, 139, 208, 289, 140, 209, 286, 172, 243, 210, 80, 82, 142, 141, 179, 143, 144, 145, 77, 130, 202, 203, 30, 204, 287, 205, 83, 71, 131, 132, 206, 288, 343, 365, 366, 378, 379, 367, 368, 380, 381, 390, 391, 146, 211, 212, 126, 198, 76, 135, 127, 213, 151, 290, 344, 369, 382, 124, 90, 153, 152, 218, 154, 199, 219, 295, 220, 296, 297, 201, 200, 278, 291, 84, 147, 138, 207, 214, 292, 293, 79, 73, 215, 75, 20, 134, 159, 294, 164, 233, 190, 234, 312, 313, 308, 95, 96, 26, 18, 85, 72, 87, 19, 74, 133, 97, 166, 237, 242, 236, 167, 238, 171, 239, 315, 316, 351, 352, 372, 387, 168, 169, 240, 170, 188, 241, 98, 92, 54, 160, 161, 13, 68, 78, 136, 128, 137, 129, 107, 108, 14, 64, 65, 118, 119, 120, 191, 273, 334, 354, 373, 355, 356, 357, 374, 192, 274, 335, 275, 336, 276, 337, 358, 338, 359, 339, 282, 360, 121, 51, 193, 277, 35, 29, 89, 150, 91, 155, 221, 187, 189, 175, 222, 223, 298, 345, 216, 224, 225, 226, 148, 217, 299, 346, 156, 227, 157, 176, 245, 246, 247, 317, 158, 228, 300, 310, 27, 88, 149, 301, 347, 302, 11, 69, 123, 125, 70, 303, 304, 305, 348, 253, 229, 230, 306, 349, 231, 99, 17, 21, 307, 232, 309, 311, 93, 163, 162, 100, 173, 38, 103, 174, 244, 177, 248, 249, 318, 178, 251, 250, 319, 252, 320, 254, 321, 36, 101, 40, 15, 194, 122, 41, 195, 279, 37, 102, 113, 186, 272, 59, 86, 114, 115, 116, 280, 281, 340, 361, 375, 341, 196, 47, 110, 183, 266, 109, 111, 184, 267, 185, 268, 269, 270, 329, 328, 330, 271, 332, 331, 333, 197, 283, 285, 284, 342, 362, 376, 388, 377, 389, 363, 364, 44, 66] := by kernel_rfl
theorem inp : Tryz.prog.inPlace 8 = ["math.archTrunc", "math.Float64bits", "math.Float64frombits", "slices.overlaps[hostler/bin.Box]", "internal/bytealg.IndexByteString", "internal/bytealg.IndexString", "internal/abi.NoEscape", "internal/bytealg.MakeNoZero"] := by unfold Program.inPlace; rw [clo]; kernel_rfl
theorem unf : Tryz.prog.unfollowed 8 = true := by unfold Program.unfollowed; rw [clo]; kernel_rfl
theorem rcs : Tryz.prog.recurses 8 = true := by unfold Program.recurses; rw [unf]; rfl
theorem vars : Tryz.prog.varsNamed 8 = ["internal/strconv.uint64pow10", "math/bits.deBruijn32tab", "math/bits.deBruijn64tab", "internal/bytealg.MaxLen"] := by unfold Program.varsNamed; rw [clo]; kernel_rfl
theorem goesNot : Tryz.prog.goes 8 = false := by unfold Program.goes; rw [clo, unf]; kernel_rfl
theorem closed : joinedFacts Tryz.prog 8 Tryz.f8 Rows.consoleDaySpec Rows.consoleDayRow = true := by unfold joinedFacts; rw [inp, unf, rcs, vars]; kernel_rfl
theorem named : Tryz.prog.funcNamed "hostler/hostlerlaw26.ConsoleDay" = some 8 := by kernel_rfl
theorem goesIt : false = Rows.consoleDayRow.goesBy Tryz.pinned.checked.prog := by
  have h : Rows.consoleDayRow.goesBy Tryz.pinned.checked.prog = ((Tryz.prog.funcNamed "hostler/hostlerlaw26.ConsoleDay").any Tryz.prog.goes || false) := rfl
  rw [h, named, Option.any_some, goesNot]
  rfl
end Go.Proofs.YtffaicfhcljacaaGreatDoor.consoleDay
