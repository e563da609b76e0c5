/- What the plain terms find of AnswerAll, by the lengths of its bytes and the rests of its numbers. -/
import Derived.Test.YtlljepgfecodoaaAllSum
import Derived.Test.YtlljepgfecodoaaPl
import Derived.Test.YtlljepgfecodoaaArgs
namespace Go.Proofs.Ytlljepgfecodoaa.answerAll
set_option linter.unusedVariables false
def tabOf (l : List (Nat × Nat × Nat × Nat × Nat)) : List (Nat × Int × Value) := l.map fun q => (q.1, (q.2.1 : Int), caseV q.2.2.1 (q.2.2.2.1, q.2.2.2.2))
def cfg (l : List (Nat × Nat × Nat × Nat × Nat)) : Cfg := ⟨fun _ => true, overW (tabOf l), summAll⟩
noncomputable def at_ (l : List (Nat × Nat × Nat × Nat × Nat)) (v1 : Value) (h : AHeap) : Bool := yes (gcall (mkTab tabAll) (deep Try.prog (cfg l) 3000) 60 4 [.chan (some 0), v1] h)
def cov0 (m0 : Nat) : List (Nat × Nat) := ones 6
def cov1 (m0 : Nat) (c0 : Nat × Nat) : List (Nat × Nat) := if m0 ≤ 0 then [(0, 7)] else ones 8
def cov2 (m0 : Nat) (c0 : Nat × Nat) (c1 : Nat × Nat) : List (Nat × Nat) := if m0 ≤ 1 then [(0, 7)] else ones 8
def cov3 (m0 : Nat) (c0 : Nat × Nat) (c1 : Nat × Nat) (c2 : Nat × Nat) : List (Nat × Nat) := if m0 ≤ 2 then [(0, 7)] else ones 8
def cov4 (m0 : Nat) (c0 : Nat × Nat) (c1 : Nat × Nat) (c2 : Nat × Nat) (c3 : Nat × Nat) : List (Nat × Nat) := if m0 ≤ 3 then [(0, 7)] else ones 8
noncomputable def run (m0 : Nat) (v1 : Value) (h : AHeap) : Bool := (cov0 m0).all fun c0 => (cov1 m0 c0).all fun c1 => (cov2 m0 c0 c1).all fun c2 => (cov3 m0 c0 c1 c2).all fun c3 => (cov4 m0 c0 c1 c2 c3).all fun c4 => at_ [(0, 6, 100, c0.1, c0.2), (500000, 8, 101, c1.1, c1.2), (500001, 8, 102, c2.1, c2.2), (500002, 8, 103, c3.1, c3.2), (500003, 8, 104, c4.1, c4.2)] v1 h
end Go.Proofs.Ytlljepgfecodoaa.answerAll
