/- The states of ConsoleDay between its stages. -/
import Derived.Test.YtffaicfhcljacaaGreatDoorSumJoin
import Derived.Test.YtffaicfhcljacaaGreatDoorPlC
import Derived.Test.YtffaicfhcljacaaGreatDoorNarrow
namespace Go.Proofs.YtffaicfhcljacaaGreatDoor.consoleDay
open Go Lit
set_option linter.unusedVariables false
def ents (v : Nat) : List (Nat × Nat × Nat × Nat × Nat) := [(0, 9, 100, v, v)]
def tabOf (l : List (Nat × Nat × Nat × Nat × Nat)) : List (Nat × Int × Value) := l.map fun q => (q.1, (q.2.1 : Int), caseV q.2.2.1 (q.2.2.2.1, q.2.2.2.2))
noncomputable def cfg (v : Nat) : Cfg := ⟨fun _ => true, overW (tabOf (ents v)), summJ⟩
noncomputable def cc (v : Nat) : XCall := gcall (mkTab tabAll) (deep Tryz.prog (cfg v) 3000) 60
noncomputable abbrev fn : Func := Tryz.f8
noncomputable def bd : List Code := match fn.body with
  | some b => flatC b []
  | none => []
abbrev sn (k : Nat) (l r : Tr Nat) : Tr Nat := .node (some k) l r
abbrev sl (k : Nat) : Tr Nat := .node (some k) .nil .nil
abbrev se : Tr Nat := .nil
noncomputable abbrev G (v n : Nat) (p : Pt) (f : List Value) (m : AHeap) (k : Pt → Tr Value → AHeap → R) : Bool := isS (go Tryz.prog (cc v) 105 100000 500 fn bd n p (argsTr f 0 .nil) m k)
noncomputable abbrev Z (p : Pt) (f : List Value) (m : AHeap) (k : Nat) (s : Tr Nat) : Pt → Tr Value → AHeap → R := kStop 105 p f m k s
noncomputable abbrev E : Pt → Tr Value → AHeap → R := fun _ _ _ => none
end Go.Proofs.YtffaicfhcljacaaGreatDoor.consoleDay
