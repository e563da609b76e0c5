/- Closed facts of the row: what the function comes to, written out once. -/
import Derived.Test.YtpjhjjdhibnciaaGreatDoorRows
import Derived.ProofKit
import Derived.SevenTiedAt
namespace Go.Proofs.YtpjhjjdhibnciaaGreatDoor.keepCorrupt
open Go Go.ChangeShapes Go.WideShapes Go.ChangeAt Go.RowKit
set_option maxRecDepth 1000000
theorem clo : Tryz.prog.closure 6 = [6, 14, 77, 39, 108, 23, 95, 157, 96, 159, 216, 217, 158, 207, 213, 260, 208, 255, 209, 256, 257, 210, 258, 259, 289, 211, 212, 214, 215, 163, 219, 261, 98, 106, 104, 162, 218, 105, 113, 109, 164, 24, 97, 165, 166, 167, 87, 93, 155, 37, 63, 38, 107, 156, 110, 81, 147, 148, 204, 253, 288, 298, 299, 306, 307, 300, 301, 308, 309, 316, 317, 168, 220, 221, 144, 200, 86, 150, 145, 222, 183, 262, 290, 302, 310, 142, 129, 184, 174, 227, 185, 201, 206, 254, 238, 273, 225, 266, 291, 303, 304, 311, 313, 314, 312, 274, 203, 202, 252, 170, 263, 111, 169, 153, 205, 223, 264, 265, 112, 83, 224, 85, 42, 149, 102, 89, 33, 100, 103, 101, 160, 161, 34, 17, 16, 78, 79, 141, 143, 80, 146, 92, 82, 18, 84, 125, 88, 151, 152, 15, 27, 41, 29, 99] := by kernel_rfl
theorem inp : Tryz.prog.inPlace 6 = ["math.archTrunc", "math.Float64bits", "math.Float64frombits"] := by unfold Program.inPlace; rw [clo]; kernel_rfl
theorem unf : Tryz.prog.unfollowed 6 = false := by unfold Program.unfollowed; rw [clo]; kernel_rfl
theorem rcs : Tryz.prog.recurses 6 = true := by unfold Program.recurses; rw [unf, clo]; kernel_rfl
theorem vars : Tryz.prog.varsNamed 6 = ["internal/strconv.uint64pow10", "math/bits.deBruijn32tab", "math/bits.deBruijn64tab"] := by unfold Program.varsNamed; rw [clo]; kernel_rfl
theorem goesNot : Tryz.prog.goes 6 = false := by unfold Program.goes; rw [clo, unf]; kernel_rfl
theorem closed : joinedFacts Tryz.prog 6 Tryz.f6 Rows.keepCorruptSpec Rows.keepCorruptRow = true := by unfold joinedFacts; rw [inp, unf, rcs, vars]; kernel_rfl
theorem named : Tryz.prog.funcNamed "hostler/hostlerlaw14.KeepCorrupt" = some 6 := by kernel_rfl
theorem goesIt : false = Rows.keepCorruptRow.goesBy Tryz.pinned.checked.prog := by
  have h : Rows.keepCorruptRow.goesBy Tryz.pinned.checked.prog = ((Tryz.prog.funcNamed "hostler/hostlerlaw14.KeepCorrupt").any Tryz.prog.goes || false) := rfl
  rw [h, named, Option.any_some, goesNot]
  rfl
end Go.Proofs.YtpjhjjdhibnciaaGreatDoor.keepCorrupt
