/- What the executor finds of MessageErrors, case by case. -/
import Derived.Test.YtdbnjmpeejoimaaAllSum
import Derived.Test.YtdbnjmpeejoimaaPl
namespace Go.Proofs.Ytdbnjmpeejoimaa.messageErrors
def cfg (c0 : Nat × Nat) : Cfg := ⟨fun _ => true, overW [(0, 1000, caseV 100 c0)], summAll⟩
noncomputable def chk (P : Program) (c0 : Nat × Nat) : Bool := yes (gcall (mkTab tabAll) (deep P (cfg c0) 3000) 60 8 [.chan (some 0)] h0)
def cov0 : List (Nat × Nat) := ([(0, 999)] : List (Nat × Nat))
end Go.Proofs.Ytdbnjmpeejoimaa.messageErrors
