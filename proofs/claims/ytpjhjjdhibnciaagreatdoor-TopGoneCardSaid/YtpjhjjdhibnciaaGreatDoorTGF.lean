/- Closed facts of the row: what the function comes to, written out once. -/
import Derived.Test.YtpjhjjdhibnciaaGreatDoorRows
import Derived.ProofKit
import Derived.SevenTiedAt
namespace Go.Proofs.YtpjhjjdhibnciaaGreatDoor.topGone
open Go Go.ChangeShapes Go.WideShapes Go.ChangeAt Go.RowKit
set_option maxRecDepth 1000000
theorem clo : Tryz.prog.closure 10 = [10, 45, 44, 114, 170, 225, 266, 291, 303, 304, 311, 313, 314, 312, 77, 64, 39, 108, 23, 95, 157, 96, 159, 216, 217, 158, 207, 213, 260, 208, 255, 209, 256, 257, 210, 258, 259, 289, 211, 212, 214, 215, 163, 219, 261, 98, 106, 104, 162, 218, 105, 113, 109, 164, 24, 97, 165, 166, 167, 87, 93, 155, 37, 63, 38, 107, 156, 110, 81, 147, 148, 204, 253, 288, 298, 299, 306, 307, 300, 301, 308, 309, 316, 317, 168, 220, 221, 144, 200, 86, 150, 145, 222, 183, 262, 290, 302, 310, 142, 129, 184, 174, 227, 185, 201, 206, 254, 238, 273, 274, 203, 202, 252, 263, 111, 169, 153, 205, 223, 264, 265, 112, 83, 224, 85, 42, 149, 102, 89, 33, 100, 103, 101, 160, 161, 34, 133, 134, 51, 29, 99, 82, 118, 30, 84, 125, 135, 31, 90, 154, 91, 194, 32, 94, 250, 271, 287, 296, 297, 305, 315, 195, 196, 251, 197, 120, 172, 136, 131, 54, 190, 191, 18, 78, 88, 151, 146, 152, 92, 15, 46, 62, 128, 182, 130, 186, 239, 119, 121, 176, 240, 241, 275, 292, 236, 58, 242, 243, 180, 237, 276, 293, 187, 244, 188, 177, 20, 229, 230, 267, 189, 245, 277, 285, 59, 126, 181, 278, 294, 279, 16, 79, 141, 143, 80, 280, 281, 282, 21, 26, 246, 247, 283, 295, 248, 137, 41, 43, 19, 249, 284, 286, 132, 193, 192, 115, 171, 47, 116, 49, 40, 56, 124, 175, 228, 178, 231, 232, 268, 179, 28, 233, 269, 234, 270, 235, 272, 50, 57, 52, 53, 48, 117, 55, 122, 173, 226, 123] := by kernel_rfl
theorem inp : Tryz.prog.inPlace 10 = ["math.archTrunc", "math.Float64bits", "math.Float64frombits", "slices.overlaps[hostler/bin.Box]"] := by unfold Program.inPlace; rw [clo]; kernel_rfl
theorem unf : Tryz.prog.unfollowed 10 = true := by unfold Program.unfollowed; rw [clo]; kernel_rfl
theorem rcs : Tryz.prog.recurses 10 = true := by unfold Program.recurses; rw [unf]; rfl
theorem vars : Tryz.prog.varsNamed 10 = ["internal/strconv.uint64pow10", "math/bits.deBruijn32tab", "math/bits.deBruijn64tab"] := by unfold Program.varsNamed; rw [clo]; kernel_rfl
theorem goesNot : Tryz.prog.goes 10 = false := by unfold Program.goes; rw [clo, unf]; kernel_rfl
theorem closed : joinedFacts Tryz.prog 10 Tryz.f10 Rows.topGoneSpec Rows.topGoneRow = true := by unfold joinedFacts; rw [inp, unf, rcs, vars]; kernel_rfl
theorem named : Tryz.prog.funcNamed "hostler/hostlertop.TopGone" = some 10 := by kernel_rfl
theorem goesIt : false = Rows.topGoneRow.goesBy Tryz.pinned.checked.prog := by
  have h : Rows.topGoneRow.goesBy Tryz.pinned.checked.prog = ((Tryz.prog.funcNamed "hostler/hostlertop.TopGone").any Tryz.prog.goes || false) := rfl
  rw [h, named, Option.any_some, goesNot]
  rfl
end Go.Proofs.YtpjhjjdhibnciaaGreatDoor.topGone
