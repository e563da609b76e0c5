/- The calls that are taken as known in this seat. -/
import Derived.Test.YtolignkahfekbaaGreatDoorCfg
import Derived.Test.YtolignkahfekbaaGreatDoorSumList
namespace Go.Proofs.YtolignkahfekbaaGreatDoor
open Go Go.RowKit
set_option maxRecDepth 1000000 in
theorem sort_nil : Known Tryz.prog (158, [.slice none 0 0], .tuple #[]) :=
  known_of (okF := ⟨fun _ => true, fun _ _ => none, fun _ _ _ => none⟩) (n := 100) (letI : Toks := ⟨fun _ => 0⟩; ⟨(fun _ _ _ h => nomatch h), CallOk.none, CallMono.none⟩) mixed (by kernel_rfl) rfl rfl (by kernel_rfl)
theorem sort_nil_any (w : World) : Calls Tryz.prog 158 #[.slice none 0 0] w fun e w' => e = .returned (.tuple #[]) ∧ Below w.heap.size w w' := sort_nil.2.2.2 w
def summL : XCall := summList 103 2 9
theorem summL_ok [Toks] : CallOk Tryz.prog summL := summList_ok sort_nil_any
theorem summL_mono : CallMono summL := summList_mono
set_option maxRecDepth 1000000 in
theorem wakes_9 : Known Tryz.prog (9, [], .bool true) :=
  known_of (okF := ⟨fun _ => true, fun _ _ => none, summL⟩) (n := 30000) (letI : Toks := ⟨fun _ => 0⟩; ⟨(fun _ _ _ h => nomatch h), summL_ok, summL_mono⟩) mixed (by kernel_rfl) rfl rfl (by kernel_rfl)
def knowns : List (FuncId × List Value × Value) := [(9, [], .bool true)]
theorem knowns_ok : ∀ q ∈ knowns, Known Tryz.prog q := by
  intro q hq
  simp only [knowns, List.mem_cons, List.not_mem_nil, or_false] at hq
  rcases hq with rfl
  exact wakes_9
def summAll : XCall := orS (summC knowns) summL
theorem summAll_ok [Toks] : CallOk Tryz.prog summAll := orS_ok (summC_ok knowns_ok) summL_ok
theorem summAll_mono : CallMono summAll := orS_mono (summC_mono _) summL_mono
end Go.Proofs.YtolignkahfekbaaGreatDoor
