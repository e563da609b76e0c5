/- What the executor finds of PathForms, case by case. -/
import Derived.Test.YtdbnjmpeejoimaaDoorAllSum
import Derived.Test.YtdbnjmpeejoimaaDoorPl
namespace Go.Proofs.YtdbnjmpeejoimaaDoor.pathForms
def cfg (c0 : Nat × Nat) : Cfg := ⟨fun _ => true, overW [(0, 24, caseV 100 c0)], summAll⟩
noncomputable def chk (P : Program) (c0 : Nat × Nat) : Bool := yes (gcall (mkTab tabAll) (deep P (cfg c0) 3000) 60 3 [.chan (some 0)] h0)
def cov0 : List (Nat × Nat) := ([(0, 0), (1, 1), (2, 2), (3, 3), (4, 4), (5, 5), (6, 6), (7, 7), (8, 8), (9, 9), (10, 10), (11, 11), (12, 12), (13, 13), (14, 14), (15, 15), (16, 16), (17, 17), (18, 18), (19, 19), (20, 20), (21, 21), (22, 22), (23, 23)] : List (Nat × Nat))
end Go.Proofs.YtdbnjmpeejoimaaDoor.pathForms
