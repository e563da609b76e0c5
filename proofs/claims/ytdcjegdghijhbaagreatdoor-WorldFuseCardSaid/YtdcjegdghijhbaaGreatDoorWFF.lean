/- Closed facts of the row: what the function comes to, written out once. -/
import Derived.Test.YtdcjegdghijhbaaGreatDoorRows
import Derived.ProofKit
import Derived.SevenTiedAt
namespace Go.Proofs.YtdcjegdghijhbaaGreatDoor.worldFuse
open Go Go.ChangeShapes Go.WideShapes Go.ChangeAt Go.RowKit
set_option maxRecDepth 1000000
theorem clo : Tryz.prog.closure 3 = [3, 6, 5, 29, 55, 91, 150, 213, 257, 258, 287, 289, 290, 288, 30, 31, 56, 92, 17, 42, 78, 43, 80, 139, 140, 79, 130, 136, 206, 131, 201, 132, 202, 203, 133, 204, 205, 256, 134, 135, 137, 138, 151, 214, 259, 103, 169, 232, 102, 168, 170, 75, 93, 153, 152, 76, 154, 155, 156, 157, 158, 215, 216, 260, 217, 261, 218, 94, 159, 219, 220, 262, 291, 297, 303, 304, 308, 309, 305, 306, 310, 311, 312, 313, 160, 221, 222, 223, 263, 225, 267, 226, 224, 107, 264, 292, 298, 307, 265, 64, 109, 108, 173, 110, 175, 174, 234, 176, 235, 236, 177, 293, 299, 266, 95, 161, 228, 270, 227, 268, 269, 74, 229, 230, 171, 54, 185, 89, 271, 117, 191, 90, 192, 254, 255, 250, 57, 58, 16, 41, 77, 36, 40, 59, 88, 149, 60, 96, 163, 167, 162, 97, 164, 101, 165, 199, 231, 272, 273, 294, 300, 98, 99, 166, 100, 86, 148, 61, 62, 27, 104, 105, 172, 193, 233, 275, 274, 276, 194, 7, 32, 63, 106, 65, 111, 178, 85, 87, 70, 179, 180, 237, 278, 277, 181, 182, 183, 238, 279, 239, 280, 112, 184, 113, 71, 120, 121, 122, 195, 114, 186, 240, 252, 242, 283, 282, 241, 281, 243, 284, 295, 301, 302, 296, 244, 245, 246, 285, 128, 187, 188, 247, 286, 189, 67, 118, 248, 249, 190, 251, 253, 66, 116, 115, 33, 68, 8, 9, 34, 10, 35, 11, 37, 69, 119, 72, 123, 124, 196, 73, 126, 125, 197, 127, 198, 129, 200, 12, 13, 38, 14, 15, 39, 18, 19] := by kernel_rfl
theorem inp : Tryz.prog.inPlace 3 = ["math.archTrunc", "math.Float64bits", "math.Float64frombits", "slices.overlaps[hostler/bin.Box]"] := by unfold Program.inPlace; rw [clo]; kernel_rfl
theorem unf : Tryz.prog.unfollowed 3 = true := by unfold Program.unfollowed; rw [clo]; kernel_rfl
theorem rcs : Tryz.prog.recurses 3 = true := by unfold Program.recurses; rw [unf]; rfl
theorem vars : Tryz.prog.varsNamed 3 = ["internal/strconv.uint64pow10", "math/bits.deBruijn32tab", "math/bits.deBruijn64tab"] := by unfold Program.varsNamed; rw [clo]; kernel_rfl
theorem goesNot : Tryz.prog.goes 3 = false := by unfold Program.goes; rw [clo, unf]; kernel_rfl
theorem closed : joinedFacts Tryz.prog 3 Tryz.f3 Rows.worldFuseSpec Rows.worldFuseRow = true := by unfold joinedFacts; rw [inp, unf, rcs, vars]; kernel_rfl
theorem named : Tryz.prog.funcNamed "hostler/hostlerlaw20.WorldFuse" = some 3 := by kernel_rfl
theorem goesIt : false = Rows.worldFuseRow.goesBy Tryz.pinned.checked.prog := by
  have h : Rows.worldFuseRow.goesBy Tryz.pinned.checked.prog = ((Tryz.prog.funcNamed "hostler/hostlerlaw20.WorldFuse").any Tryz.prog.goes || false) := rfl
  rw [h, named, Option.any_some, goesNot]
  rfl
end Go.Proofs.YtdcjegdghijhbaaGreatDoor.worldFuse
