/- What the plain terms find of AdmitForms, leaf by leaf of its cases. -/
import Derived.Test.YtiheogigjogjbaaNeedT
import Derived.Test.YtiheogigjogjbaaPl
namespace Go.Proofs.Ytiheogigjogjbaa.admitForms
def tabOf (l : List (Nat × Nat × Nat × Nat × Nat)) : List (Nat × Int × Value) := l.map fun q => (q.1, (q.2.1 : Int), caseT q.2.2.1 (q.2.2.2.1, q.2.2.2.2))
def cfg (l : List (Nat × Nat × Nat × Nat × Nat)) : Cfg := ⟨fun _ => true, overW (tabOf l), summT⟩
noncomputable def at_ (l : List (Nat × Nat × Nat × Nat × Nat)) : Bool := yes (gcall (mkTab tabAll) (deep Try.prog (cfg l) 3000) 60 5 [.chan (some 0), .chan (some 1), .chan (some 2)] h0)
end Go.Proofs.Ytiheogigjogjbaa.admitForms
