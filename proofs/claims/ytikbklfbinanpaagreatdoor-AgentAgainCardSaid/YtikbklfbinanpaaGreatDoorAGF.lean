/- Closed facts of the row: what the function comes to, written out once. -/
import Derived.Test.YtikbklfbinanpaaGreatDoorRows
import Derived.ProofKit
import Derived.SevenTiedAt
namespace Go.Proofs.YtikbklfbinanpaaGreatDoor.agentAgain
open Go Go.ChangeShapes Go.WideShapes Go.ChangeAt Go.RowKit
set_option maxRecDepth 1000000
theorem clo : Tryz.prog.closure 3 = [3, 5, 4, 13, 14, 29, 62, 105, 153, 200, 233, 234, 248, 250, 251, 249, 30, 63, 73, 118, 167, 119, 169, 220, 221, 168, 211, 217, 244, 212, 239, 213, 240, 241, 214, 242, 243, 255, 215, 216, 218, 219, 106, 154, 201, 75, 121, 170, 74, 120, 122, 123, 64, 108, 107, 155, 109, 110, 111, 112, 88, 143, 144, 192, 145, 193, 146, 65, 113, 156, 157, 202, 235, 252, 258, 259, 263, 264, 260, 261, 265, 266, 267, 268, 114, 158, 159, 160, 203, 148, 196, 162, 161, 76, 204, 236, 253, 262, 205, 36, 78, 77, 124, 79, 126, 125, 171, 127, 172, 173, 128, 237, 254, 206, 66, 115, 164, 209, 163, 207, 208, 238, 165, 166, 94, 61, 137, 46, 210, 51, 96, 150, 97, 151, 152, 188, 31, 32, 27, 60, 103, 104, 59, 33, 67, 116, 34, 68, 85, 117, 86, 45, 92, 72, 93, 101, 147, 194, 195, 232, 247, 69, 70, 89, 71, 41, 90, 35, 23, 28, 47, 48, 95, 84, 149, 198, 197, 199, 87, 15, 18, 38, 37, 80, 129, 174, 130, 21, 131, 132, 175, 223, 222, 133, 134, 135, 176, 224, 177, 225, 81, 136, 82, 22, 42, 43, 44, 91, 83, 138, 178, 190, 180, 228, 227, 179, 226, 181, 229, 245, 256, 257, 246, 182, 183, 184, 230, 57, 139, 140, 185, 231, 141, 19, 39, 186, 187, 142, 189, 191, 24, 50, 49, 16, 7, 8, 6, 17, 10, 9, 20, 40, 25, 52, 53, 98, 26, 55, 54, 99, 56, 100, 58, 102, 11, 12] := by kernel_rfl
theorem inp : Tryz.prog.inPlace 3 = ["math.archTrunc", "math.Float64bits", "math.Float64frombits", "slices.overlaps[hostler/bin.Box]"] := by unfold Program.inPlace; rw [clo]; kernel_rfl
theorem unf : Tryz.prog.unfollowed 3 = true := by unfold Program.unfollowed; rw [clo]; kernel_rfl
theorem rcs : Tryz.prog.recurses 3 = true := by unfold Program.recurses; rw [unf]; rfl
theorem vars : Tryz.prog.varsNamed 3 = ["internal/strconv.uint64pow10", "math/bits.deBruijn32tab", "math/bits.deBruijn64tab"] := by unfold Program.varsNamed; rw [clo]; kernel_rfl
theorem goesNot : Tryz.prog.goes 3 = false := by unfold Program.goes; rw [clo, unf]; kernel_rfl
theorem closed : joinedFacts Tryz.prog 3 Tryz.f3 Rows.agentAgainSpec Rows.agentAgainRow = true := by unfold joinedFacts; rw [inp, unf, rcs, vars]; kernel_rfl
theorem named : Tryz.prog.funcNamed "hostler/hostlerlaw19.AgentAgain" = some 3 := by kernel_rfl
theorem goesIt : false = Rows.agentAgainRow.goesBy Tryz.pinned.checked.prog := by
  have h : Rows.agentAgainRow.goesBy Tryz.pinned.checked.prog = ((Tryz.prog.funcNamed "hostler/hostlerlaw19.AgentAgain").any Tryz.prog.goes || false) := rfl
  rw [h, named, Option.any_some, goesNot]
  rfl
end Go.Proofs.YtikbklfbinanpaaGreatDoor.agentAgain
