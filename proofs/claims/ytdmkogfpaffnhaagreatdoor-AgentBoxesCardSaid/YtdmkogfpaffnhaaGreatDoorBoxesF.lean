/- Closed facts of the row: what the function comes to, written out once. -/
import Derived.Test.YtdmkogfpaffnhaaGreatDoorRows
import Derived.ProofKit
import Derived.SevenTiedAt
namespace Go.Proofs.YtdmkogfpaffnhaaGreatDoor.agentBoxes
open Go Go.ChangeShapes Go.WideShapes Go.ChangeAt Go.RowKit
set_option maxRecDepth 1000000
theorem clo : Tryz.prog.closure 13 = [13, 16, 23, 15, 35, 36, 62, 103, 145, 189, 240, 264, 265, 273, 275, 276, 274, 63, 104, 74, 124, 176, 125, 178, 230, 231, 177, 221, 227, 262, 222, 257, 223, 258, 259, 224, 260, 261, 271, 225, 226, 228, 229, 146, 190, 241, 114, 157, 202, 113, 156, 158, 76, 105, 147, 42, 73, 148, 149, 150, 151, 132, 179, 180, 232, 181, 233, 182, 106, 152, 191, 192, 242, 266, 277, 282, 283, 287, 288, 284, 285, 289, 290, 291, 292, 153, 193, 194, 195, 243, 184, 236, 197, 196, 115, 244, 267, 278, 286, 245, 69, 117, 116, 159, 118, 161, 160, 203, 162, 204, 205, 163, 268, 279, 246, 107, 154, 199, 249, 198, 247, 248, 75, 200, 201, 40, 46, 72, 89, 250, 94, 138, 186, 139, 187, 188, 217, 64, 65, 29, 51, 81, 82, 50, 66, 71, 123, 67, 108, 129, 155, 130, 88, 135, 112, 136, 143, 183, 234, 235, 263, 272, 109, 110, 133, 111, 48, 80, 68, 56, 27, 90, 91, 137, 128, 185, 238, 237, 239, 131, 38, 52, 83, 70, 119, 164, 47, 49, 54, 165, 166, 206, 251, 126, 167, 168, 169, 78, 127, 207, 252, 120, 170, 121, 55, 85, 86, 87, 134, 122, 171, 208, 219, 26, 45, 79, 209, 253, 210, 254, 269, 280, 281, 270, 211, 212, 213, 255, 100, 172, 173, 214, 256, 174, 44, 77, 215, 216, 175, 218, 220, 57, 93, 92, 41, 18, 19, 17, 32, 60, 20, 31, 53, 84, 58, 95, 96, 140, 59, 98, 97, 141, 99, 142, 101, 144, 33, 61, 102, 22, 24, 25] := by kernel_rfl
theorem inp : Tryz.prog.inPlace 13 = ["math.archTrunc", "math.Float64bits", "math.Float64frombits", "slices.overlaps[hostler/bin.Box]"] := by unfold Program.inPlace; rw [clo]; kernel_rfl
theorem unf : Tryz.prog.unfollowed 13 = true := by unfold Program.unfollowed; rw [clo]; kernel_rfl
theorem rcs : Tryz.prog.recurses 13 = true := by unfold Program.recurses; rw [unf]; rfl
theorem vars : Tryz.prog.varsNamed 13 = ["internal/strconv.uint64pow10", "math/bits.deBruijn32tab", "math/bits.deBruijn64tab"] := by unfold Program.varsNamed; rw [clo]; kernel_rfl
theorem goesNot : Tryz.prog.goes 13 = false := by unfold Program.goes; rw [clo, unf]; kernel_rfl
theorem closed : joinedFacts Tryz.prog 13 Tryz.f13 Rows.agentBoxesSpec Rows.agentBoxesRow = true := by unfold joinedFacts; rw [inp, unf, rcs, vars]; kernel_rfl
theorem named : Tryz.prog.funcNamed "hostler/hostlerlaw19.AgentBoxes" = some 13 := by kernel_rfl
theorem goesIt : false = Rows.agentBoxesRow.goesBy Tryz.pinned.checked.prog := by
  have h : Rows.agentBoxesRow.goesBy Tryz.pinned.checked.prog = ((Tryz.prog.funcNamed "hostler/hostlerlaw19.AgentBoxes").any Tryz.prog.goes || false) := rfl
  rw [h, named, Option.any_some, goesNot]
  rfl
end Go.Proofs.YtdmkogfpaffnhaaGreatDoor.agentBoxes
