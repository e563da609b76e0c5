/- The states of ConsoleGroup between its stages. -/
import Derived.Test.YtffaicfhcljacaaGreatDoorSumJoin
import Derived.Test.YtffaicfhcljacaaGreatDoorPlG
import Derived.Test.YtffaicfhcljacaaGreatDoorNarrow
namespace Go.Proofs.YtffaicfhcljacaaGreatDoor.consoleGroup
open Go Lit
set_option linter.unusedVariables false
def ents (v : Nat) : List (Nat × Nat × Nat × Nat × Nat) := [(0, 3, 100, 0, 2)]
def tabOf (l : List (Nat × Nat × Nat × Nat × Nat)) : List (Nat × Int × Value) := l.map fun q => (q.1, (q.2.1 : Int), caseV q.2.2.1 (q.2.2.2.1, q.2.2.2.2))
noncomputable def cfg (v : Nat) : Cfg := ⟨fun _ => true, overW (tabOf (ents v)), summJ⟩
noncomputable def cc (v : Nat) : XCall := gcall (mkTab tabAll) (deep Tryz.prog (cfg v) 3000) 60
noncomputable abbrev fn : Func := Tryz.f9
noncomputable def bd : List Code := match fn.body with
  | some b => flatC b []
  | none => []
abbrev sn (k : Nat) (l r : Tr Nat) : Tr Nat := .node (some k) l r
abbrev sl (k : Nat) : Tr Nat := .node (some k) .nil .nil
abbrev se : Tr Nat := .nil
noncomputable abbrev G (v n : Nat) (p : Pt) (f : List Value) (m : AHeap) (k : Pt → Tr Value → AHeap → R) : Bool := isS (go Tryz.prog (cc v) 94 100000 500 fn bd n p (argsTr f 0 .nil) m k)
noncomputable abbrev Z (p : Pt) (f : List Value) (m : AHeap) (k : Nat) (s : Tr Nat) : Pt → Tr Value → AHeap → R := kStop 94 p f m k s
noncomputable abbrev E : Pt → Tr Value → AHeap → R := fun _ _ _ => none
noncomputable def o0 : Option AObj := lH 0 3 0 [lD [lS [101,112,111,99,104],lP 4]]
noncomputable def o1 : Option AObj := lH 133 0 6 [lI 4000,lI 1,lM 0,lF,lI 0,lF]
noncomputable def o2 : Option AObj := lH 0 3 0 []
noncomputable def o3 : Option AObj := lH 120 0 5 [lP 1,lI 1,.slice none 0 0,lM 2,lF]
noncomputable def o4 : Option AObj := lH 136 0 3 [lO 5 0 1 1,lI 1,lT]
noncomputable def o5 : Option AObj := lH 5 0 1 [lB 1]
noncomputable def o6 : Option AObj := lH 232 0 1 [.slice none 0 0]
noncomputable def o7 : Option AObj := lH 234 0 1 [.slice none 0 0]
noncomputable def o8 : Option AObj := lH 147 0 14 [lC 4621819117588971520 4621819117588971520,lI 4,lI 3,lI 5,lI 2,lI 8,lI 4000,lP 1,lP 3,lM 6,lP 7,lP 8,lI 0,lF]
noncomputable def o9 : Option AObj := lH 155 0 11 [lC 4621819117588971520 4621819117588971520,lI 4,lI 3,lI 5,lI 2,lI 8,lI 4000,lP 1,lP 9,.slice none 0 0,lF]
noncomputable def o10 : Option AObj := lH 169 0 1 [lM 11]
noncomputable def o11 : Option AObj := lH 183 0 5 [.slice none 0 0,lM 13,lM 14,.slice none 0 0,lM 15]
noncomputable def o12 : Option AObj := lH 162 0 4 [lP 10,lP 12,lP 16,lI 0]
noncomputable def o13 : Option AObj := lH 186 0 1 [lP 17]
noncomputable def f1 : List Value := [.iface 100 (.iface 0 (.iface 2 (lI 1))),lU,lF,lP 18,lI 0,lU,lU,lU,lD [lP 18,lI 0],lA [lC 4621819117588971520 4621819117588971520,lI 4,lI 3,lI 5,lI 2,lI 8,lI 4000],lD [lP 18,lI 0],lP 18,lI 0,lI 0,lF,lF,lP 18,lF,lF,.chan (some 0),.iface 100 (.iface 0 (.iface 2 (lI 0))),.iface 100 (.iface 0 (.iface 2 (lI 1))),lU,lU,lU,lU,lU,lU,lU,lU,lU,lU,lU,lU,lU,lU,lU,lU,lU,lU,lU,lU,lU,lU,lU,lU,lU,lU,lU,lU,lU,lU,lU,lU,lU,lU,lU,lU,lU,lU,lU,lU,lU,lU,lU,lU,lU,lU,lU,lU,lU,lU,lU,lU,lU,lU,lU,lU,lU,lU,lU,lU,lU,lU,lU,lU,lU,lU,lU,lU,lU,lU,lU,lU]
noncomputable def m1 : AHeap := ⟨19, (tn o0 (tn o1 (tn o3 (tn o6 (tl o2) te) (tl o2)) (tn o5 (tn o8 (tl o12) te) (tl o2))) (tn o2 (tn o4 (tn o7 (tl o11) te) (tl o10)) (tn o2 (tn o9 (tl o13) te) (tl o2))))⟩
end Go.Proofs.YtffaicfhcljacaaGreatDoor.consoleGroup
