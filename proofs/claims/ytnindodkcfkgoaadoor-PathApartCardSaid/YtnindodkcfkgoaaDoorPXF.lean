/- Closed facts of the row: what the function comes to, written out once. -/
import Derived.Test.YtnindodkcfkgoaaDoorRows
import Derived.ProofKit
import Derived.SevenTiedAt
namespace Go.Proofs.YtnindodkcfkgoaaDoor.pathApart
open Go Go.ChangeShapes Go.WideShapes Go.ChangeAt Go.RowKit
set_option maxRecDepth 1000000
theorem clo : Tryd.prog.closure 4 = [4, 5, 18, 7, 19, 20, 26, 29, 31, 32, 33, 37, 36, 38, 34, 35, 39, 40, 41, 42, 9, 22, 27, 30, 11, 24, 13, 15, 25, 28, 17] := by kernel_rfl
theorem inp : Tryd.prog.inPlace 4 = [] := by unfold Program.inPlace; rw [clo]; kernel_rfl
theorem unf : Tryd.prog.unfollowed 4 = false := by unfold Program.unfollowed; rw [clo]; kernel_rfl
theorem rcs : Tryd.prog.recurses 4 = false := by unfold Program.recurses; rw [unf, clo]; kernel_rfl
theorem vars : Tryd.prog.varsNamed 4 = ["internal/strconv.uint64pow10", "math/bits.deBruijn32tab", "math/bits.deBruijn64tab"] := by unfold Program.varsNamed; rw [clo]; kernel_rfl
theorem goesNot : Tryd.prog.goes 4 = false := by unfold Program.goes; rw [clo, unf]; kernel_rfl
theorem closed : joinedFacts Tryd.prog 4 Tryd.f4 Rows.pathApartSpec Rows.pathApartRow = true := by unfold joinedFacts; rw [inp, unf, rcs, vars]; kernel_rfl
theorem named : Tryd.prog.funcNamed "hostler/hostlerlaw06.PathApart" = some 4 := by kernel_rfl
theorem goesIt : false = Rows.pathApartRow.goesBy Tryd.pinned.checked.prog := by
  have h : Rows.pathApartRow.goesBy Tryd.pinned.checked.prog = ((Tryd.prog.funcNamed "hostler/hostlerlaw06.PathApart").any Tryd.prog.goes || false) := rfl
  rw [h, named, Option.any_some, goesNot]
  rfl
end Go.Proofs.YtnindodkcfkgoaaDoor.pathApart
