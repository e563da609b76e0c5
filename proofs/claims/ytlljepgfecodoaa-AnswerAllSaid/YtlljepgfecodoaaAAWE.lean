/- The cases behind the first rests. -/
import Derived.Test.YtlljepgfecodoaaAAWD
namespace Go.Proofs.Ytlljepgfecodoaa.answerAll
noncomputable def runp1 (c0 : Nat × Nat) (m0 : Nat) (v1 : Value) (h : AHeap) : Bool := (cov1 m0 c0).all fun c1 => (cov2 m0 c0 c1).all fun c2 => (cov3 m0 c0 c1 c2).all fun c3 => (cov4 m0 c0 c1 c2 c3).all fun c4 => at_ [(0, 6, 100, c0.1, c0.2), (500000, 8, 101, c1.1, c1.2), (500001, 8, 102, c2.1, c2.2), (500002, 8, 103, c3.1, c3.2), (500003, 8, 104, c4.1, c4.2)] v1 h
noncomputable def runp2 (c0 : Nat × Nat) (c1 : Nat × Nat) (m0 : Nat) (v1 : Value) (h : AHeap) : Bool := (cov2 m0 c0 c1).all fun c2 => (cov3 m0 c0 c1 c2).all fun c3 => (cov4 m0 c0 c1 c2 c3).all fun c4 => at_ [(0, 6, 100, c0.1, c0.2), (500000, 8, 101, c1.1, c1.2), (500001, 8, 102, c2.1, c2.2), (500002, 8, 103, c3.1, c3.2), (500003, 8, 104, c4.1, c4.2)] v1 h
noncomputable def runp3 (c0 : Nat × Nat) (c1 : Nat × Nat) (c2 : Nat × Nat) (m0 : Nat) (v1 : Value) (h : AHeap) : Bool := (cov3 m0 c0 c1 c2).all fun c3 => (cov4 m0 c0 c1 c2 c3).all fun c4 => at_ [(0, 6, 100, c0.1, c0.2), (500000, 8, 101, c1.1, c1.2), (500001, 8, 102, c2.1, c2.2), (500002, 8, 103, c3.1, c3.2), (500003, 8, 104, c4.1, c4.2)] v1 h
end Go.Proofs.Ytlljepgfecodoaa.answerAll
