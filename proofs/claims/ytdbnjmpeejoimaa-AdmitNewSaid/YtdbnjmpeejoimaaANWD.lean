/- What the executor finds of AdmitNew, case by case. -/
import Derived.Test.YtdbnjmpeejoimaaAllSum
import Derived.Test.YtdbnjmpeejoimaaPl
namespace Go.Proofs.Ytdbnjmpeejoimaa.admitNew
def cfg (c0 : Nat × Nat) (c1 : Nat × Nat) (c2 : Nat × Nat) : Cfg := ⟨fun _ => true, overW [(0, 8, caseV 100 c0), (1, 8, caseV 101 c1), (2, 26, caseV 102 c2)], summAll⟩
noncomputable def chk (P : Program) (c0 : Nat × Nat) (c1 : Nat × Nat) (c2 : Nat × Nat) : Bool := yes (gcall (mkTab tabAll) (deep P (cfg c0 c1 c2) 3000) 60 9 [.chan (some 0), .chan (some 1), .chan (some 2)] h0)
def cov0 : List (Nat × Nat) := ([(0, 0), (1, 1), (2, 2), (3, 3), (4, 4), (5, 5), (6, 6), (7, 7)] : List (Nat × Nat))
def cov1 : List (Nat × Nat) := ([(0, 0), (1, 1), (2, 2), (3, 3), (4, 4), (5, 5), (6, 6), (7, 7)] : List (Nat × Nat))
def cov2 : List (Nat × Nat) := ([(0, 0), (1, 1), (2, 2), (3, 3), (4, 4), (5, 5), (6, 6), (7, 7), (8, 8), (9, 9), (10, 10), (11, 11), (12, 12), (13, 13), (14, 14), (15, 15), (16, 16), (17, 17), (18, 18), (19, 19), (20, 20), (21, 21), (22, 22), (23, 23), (24, 24), (25, 25)] : List (Nat × Nat))
end Go.Proofs.Ytdbnjmpeejoimaa.admitNew
