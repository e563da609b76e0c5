/- Closed facts of the row: what the function comes to, written out once. -/
import Derived.Test.YtdbnjmpeejoimaaDoorRows
import Derived.ProofKit
import Derived.SevenTiedAt
namespace Go.Proofs.YtdbnjmpeejoimaaDoor.pathForms
open Go Go.ChangeShapes Go.WideShapes Go.ChangeAt Go.RowKit
set_option maxRecDepth 1000000
theorem clo : Tryd.prog.closure 3 = [3, 4, 5, 12, 13, 18, 21, 23, 24, 25, 29, 28, 30, 26, 27, 31, 32, 33, 34, 6, 14, 19, 22, 7, 15, 8, 9, 10, 16, 20, 11, 17] := by kernel_rfl
theorem inp : Tryd.prog.inPlace 3 = [] := by unfold Program.inPlace; rw [clo]; kernel_rfl
theorem unf : Tryd.prog.unfollowed 3 = false := by unfold Program.unfollowed; rw [clo]; kernel_rfl
theorem rcs : Tryd.prog.recurses 3 = false := by unfold Program.recurses; rw [unf, clo]; kernel_rfl
theorem vars : Tryd.prog.varsNamed 3 = ["internal/strconv.uint64pow10", "math/bits.deBruijn32tab", "math/bits.deBruijn64tab"] := by unfold Program.varsNamed; rw [clo]; kernel_rfl
theorem goesNot : Tryd.prog.goes 3 = false := by unfold Program.goes; rw [clo, unf]; kernel_rfl
theorem closed : joinedFacts Tryd.prog 3 Tryd.f3 Rows.pathFormsSpec Rows.pathFormsRow = true := by unfold joinedFacts; rw [inp, unf, rcs, vars]; kernel_rfl
theorem named : Tryd.prog.funcNamed "hostler/hostlerlaw06.PathForms" = some 3 := by kernel_rfl
theorem goesIt : false = Rows.pathFormsRow.goesBy Tryd.pinned.checked.prog := by
  have h : Rows.pathFormsRow.goesBy Tryd.pinned.checked.prog = ((Tryd.prog.funcNamed "hostler/hostlerlaw06.PathForms").any Tryd.prog.goes || false) := rfl
  rw [h, named, Option.any_some, goesNot]
  rfl
end Go.Proofs.YtdbnjmpeejoimaaDoor.pathForms
