/- The walk of AgentAsks: the executor finds it true, case by case. -/
import Derived.Test.YtdmkogfpaffnhaaGreatDoorAsksW0
namespace Go.Proofs.YtdmkogfpaffnhaaGreatDoor.agentAsks
open Go.ChangeShapes Go.WideShapes Go.ChangeAt Go.RowKit
theorem walk (a0 : Int) (w : World) (b0 : -9223372036854775808 ≤ a0 ∧ a0 ≤ 9223372036854775807) :
    Calls Tryz.prog 9 #[.int .i64 a0] w fun e w' => e = .returned (.bool true) ∧ Below w.heap.size w w' := by
  letI : Toks := ⟨fun k => if k = 0 then a0 else 0⟩
  have hc : chk Tryz.prog  = true := by
    exact all0_0
  refine top_plain (okF := cfg ) tabAll_ok ⟨overW_ok [] (fun q hq => ?_) fun q hq => ?_, summAll_ok, summAll_mono⟩ mixed 3000 60 w ?_ hc
  · cases hq
  · cases hq
  · exact .cons (rfl) .nil
end Go.Proofs.YtdmkogfpaffnhaaGreatDoor.agentAsks
