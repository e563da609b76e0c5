/- What the plain terms find of TasksOrder, by the lengths of its bytes and the rests of its numbers. -/
import Derived.Test.YtiheogigjogjbaaAllSum
import Derived.Test.YtiheogigjogjbaaPl
import Derived.Test.YtiheogigjogjbaaArgs
namespace Go.Proofs.Ytiheogigjogjbaa.tasksOrder
set_option linter.unusedVariables false
def tabOf (l : List (Nat × Nat × Nat × Nat × Nat)) : List (Nat × Int × Value) := l.map fun q => (q.1, (q.2.1 : Int), caseV q.2.2.1 (q.2.2.2.1, q.2.2.2.2))
def cfg (l : List (Nat × Nat × Nat × Nat × Nat)) : Cfg := ⟨fun _ => true, overW (tabOf l), summAll⟩
noncomputable def at_ (l : List (Nat × Nat × Nat × Nat × Nat)) (v0 : Value) (h : AHeap) : Bool := yes (gcall (mkTab tabAll) (deep Try.prog (cfg l) 3000) 60 3 [v0, .chan (some 1)] h)
def cov0 (m0 : Nat) : List (Nat × Nat) := ones 3
def cov1 (m0 : Nat) (c0 : Nat × Nat) : List (Nat × Nat) := if m0 ≤ 0 then [(0, 3)] else [(0, 0), (1, 3)]
def cov2 (m0 : Nat) (c0 : Nat × Nat) (c1 : Nat × Nat) : List (Nat × Nat) := if m0 ≤ 1 then [(0, 3)] else if c0.1 = 0 then [(0, 0), (1, 1), (2, 3)] else if c0.1 = 1 then [(0, 0), (1, 1), (2, 2), (3, 3)] else [(0, 0), (1, 2), (3, 3)]
def cov3 (m0 : Nat) (c0 : Nat × Nat) (c1 : Nat × Nat) (c2 : Nat × Nat) : List (Nat × Nat) := if m0 ≤ 2 then [(0, 3)] else [(0, 0), (1, 3)]
def cov4 (m0 : Nat) (c0 : Nat × Nat) (c1 : Nat × Nat) (c2 : Nat × Nat) (c3 : Nat × Nat) : List (Nat × Nat) := if m0 ≤ 3 then [(0, 3)] else if c0.1 = 0 then [(0, 0), (1, 1), (2, 3)] else if c0.1 = 1 then [(0, 0), (1, 1), (2, 2), (3, 3)] else [(0, 0), (1, 2), (3, 3)]
def cov5 (m0 : Nat) (c0 : Nat × Nat) (c1 : Nat × Nat) (c2 : Nat × Nat) (c3 : Nat × Nat) (c4 : Nat × Nat) : List (Nat × Nat) := if m0 ≤ 4 then [(0, 3)] else [(0, 0), (1, 3)]
def cov6 (m0 : Nat) (c0 : Nat × Nat) (c1 : Nat × Nat) (c2 : Nat × Nat) (c3 : Nat × Nat) (c4 : Nat × Nat) (c5 : Nat × Nat) : List (Nat × Nat) := if m0 ≤ 5 then [(0, 3)] else if c0.1 = 0 then [(0, 0), (1, 1), (2, 3)] else if c0.1 = 1 then [(0, 0), (1, 1), (2, 2), (3, 3)] else [(0, 0), (1, 2), (3, 3)]
noncomputable def run (m0 : Nat) (v0 : Value) (h : AHeap) : Bool := (cov0 m0).all fun c0 => (cov1 m0 c0).all fun c1 => (cov2 m0 c0 c1).all fun c2 => (cov3 m0 c0 c1 c2).all fun c3 => (cov4 m0 c0 c1 c2 c3).all fun c4 => (cov5 m0 c0 c1 c2 c3 c4).all fun c5 => (cov6 m0 c0 c1 c2 c3 c4 c5).all fun c6 => at_ [(1, 3, 100, c0.1, c0.2), (500000, 4, 101, c1.1, c1.2), (500001, 4, 102, c2.1, c2.2), (500002, 4, 103, c3.1, c3.2), (500003, 4, 104, c4.1, c4.2), (500004, 4, 105, c5.1, c5.2), (500005, 4, 106, c6.1, c6.2)] v0 h
end Go.Proofs.Ytiheogigjogjbaa.tasksOrder
