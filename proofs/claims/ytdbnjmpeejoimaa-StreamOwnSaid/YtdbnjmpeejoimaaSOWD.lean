/- What the executor finds of StreamOwn, case by case. -/
import Derived.Test.YtdbnjmpeejoimaaAllSum
import Derived.Test.YtdbnjmpeejoimaaPl
namespace Go.Proofs.Ytdbnjmpeejoimaa.streamOwn
def cfg (c0 : Nat × Nat) : Cfg := ⟨fun _ => true, overW [(0, 1000, caseV 100 c0)], summAll⟩
noncomputable def chk (P : Program) (c0 : Nat × Nat) : Bool := yes (gcall (mkTab tabAll) (deep P (cfg c0) 3000) 60 7 [.chan (some 0)] h0)
def cov0 : List (Nat × Nat) := ([(0, 999)] : List (Nat × Nat))
end Go.Proofs.Ytdbnjmpeejoimaa.streamOwn
