/- The contract of Done of the plain answer's reader. -/
import Derived.Test.YthcehdllpoenjaaRdNew
namespace Go.Proofs.Ythcehdllpoenjaa
open Go.ChangeShapes Go.WideShapes Go.ChangeAt Go.RowKit
set_option maxHeartbeats 1000000 in
theorem RrDone_ok (g : Nat) (A : Option Addr) (n cp : Nat) (b : Bool) (w : World) (hb : Blk w g 35 #[.slice A n cp, .bool b]) :
    Calls Try.prog 19 #[.pointer (some ⟨g, 0, none⟩)] w fun e w' => e = .returned (.bool (!b && n == 0)) ∧ w = w' := by
  have h0 : w.cell? ⟨g, 0, none⟩ = some (.slice A n cp) := hb.cell 0
  have h2 : w.cell? ⟨g, 1, none⟩ = some (.bool b) := hb.cell 1
  go_enter Try.func19, Try.ntmps19
  by_cases hpn : n = 0
  · subst hpn
    cases b <;> go_wp2 <;> go_ret
    all_goals
      refine ⟨?_, rfl⟩
      simp
  · have hne : ((n : Int) == 0) = false := by simp; omega
    have hne' : (n == 0) = false := by simp; omega
    cases b <;> go_wp2 <;> go_ret
    all_goals
      refine ⟨?_, rfl⟩
      simp [hne']
end Go.Proofs.Ythcehdllpoenjaa
