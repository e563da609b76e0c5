/- The cases behind the first rests. -/
import Derived.Test.YtiheogigjogjbaaTOWD
namespace Go.Proofs.Ytiheogigjogjbaa.tasksOrder
noncomputable def runp (c0 : Nat × Nat) (c1 : Nat × Nat) (c2 : Nat × Nat) (c3 : Nat × Nat) (m0 : Nat) (v0 : Value) (h : AHeap) : Bool := (cov4 m0 c0 c1 c2 c3).all fun c4 => (cov5 m0 c0 c1 c2 c3 c4).all fun c5 => (cov6 m0 c0 c1 c2 c3 c4 c5).all fun c6 => at_ [(1, 3, 100, c0.1, c0.2), (500000, 4, 101, c1.1, c1.2), (500001, 4, 102, c2.1, c2.2), (500002, 4, 103, c3.1, c3.2), (500003, 4, 104, c4.1, c4.2), (500004, 4, 105, c5.1, c5.2), (500005, 4, 106, c6.1, c6.2)] v0 h
end Go.Proofs.Ytiheogigjogjbaa.tasksOrder
