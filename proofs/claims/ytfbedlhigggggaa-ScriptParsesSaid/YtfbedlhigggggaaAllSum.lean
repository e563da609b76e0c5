/- The calls that are taken as known in this seat. -/
import Derived.Test.YtfbedlhigggggaaCfg
namespace Go.Proofs.Ytfbedlhigggggaa
open Go Go.RowKit
def summL : XCall := fun _ _ _ => none
theorem summL_ok [Toks] : CallOk Try.prog summL := CallOk.none
theorem summL_mono : CallMono summL := CallMono.none
set_option maxRecDepth 1000000 in
theorem wakes_11 : Known Try.prog (11, [], .bool true) :=
  known_of (okF := ⟨fun _ => true, fun _ _ => none, summL⟩) (n := 30000) (letI : Toks := ⟨fun _ => 0⟩; ⟨(fun _ _ _ h => nomatch h), summL_ok, summL_mono⟩) mixed (by kernel_rfl) rfl rfl (by kernel_rfl)
def knowns : List (FuncId × List Value × Value) := [(11, [], .bool true)]
theorem knowns_ok : ∀ q ∈ knowns, Known Try.prog q := by
  intro q hq
  simp only [knowns, List.mem_cons, List.not_mem_nil, or_false] at hq
  rcases hq with rfl
  exact wakes_11
def summAll : XCall := orS (summC knowns) summL
theorem summAll_ok [Toks] : CallOk Try.prog summAll := orS_ok (summC_ok knowns_ok) summL_ok
theorem summAll_mono : CallMono summAll := orS_mono (summC_mono _) summL_mono
end Go.Proofs.Ytfbedlhigggggaa
