/- The calls that are taken as known in this seat. -/
import Derived.Test.YtplmfmcogbdpjaaCfg
import Derived.Test.YtplmfmcogbdpjaaSumList
namespace Go.Proofs.Ytplmfmcogbdpjaa
open Go Go.RowKit
set_option maxRecDepth 1000000 in
theorem sort_nil : Known Try.prog (68, [.slice none 0 0], .tuple #[]) :=
  known_of (okF := ⟨fun _ => true, fun _ _ => none, fun _ _ _ => none⟩) (n := 100) (letI : Toks := ⟨fun _ => 0⟩; ⟨(fun _ _ _ h => nomatch h), CallOk.none, CallMono.none⟩) mixed (by kernel_rfl) rfl rfl (by kernel_rfl)
theorem sort_nil_any (w : World) : Calls Try.prog 68 #[.slice none 0 0] w fun e w' => e = .returned (.tuple #[]) ∧ Below w.heap.size w w' := sort_nil.2.2.2 w
def summL : XCall := summList 22 2 9
theorem summL_ok [Toks] : CallOk Try.prog summL := summList_ok sort_nil_any
theorem summL_mono : CallMono summL := summList_mono
set_option maxRecDepth 1000000 in
theorem wakes_23 : Known Try.prog (23, [], .bool true) :=
  known_of (okF := ⟨fun _ => true, fun _ _ => none, summL⟩) (n := 30000) (letI : Toks := ⟨fun _ => 0⟩; ⟨(fun _ _ _ h => nomatch h), summL_ok, summL_mono⟩) mixed (by kernel_rfl) rfl rfl (by kernel_rfl)
set_option maxRecDepth 1000000 in
theorem wakes_34 : Known Try.prog (34, [], .bool true) :=
  known_of (okF := ⟨fun _ => true, fun _ _ => none, summL⟩) (n := 30000) (letI : Toks := ⟨fun _ => 0⟩; ⟨(fun _ _ _ h => nomatch h), summL_ok, summL_mono⟩) mixed (by kernel_rfl) rfl rfl (by kernel_rfl)
set_option maxRecDepth 1000000 in
theorem wakes_44 : Known Try.prog (44, [], .bool true) :=
  known_of (okF := ⟨fun _ => true, fun _ _ => none, summL⟩) (n := 30000) (letI : Toks := ⟨fun _ => 0⟩; ⟨(fun _ _ _ h => nomatch h), summL_ok, summL_mono⟩) mixed (by kernel_rfl) rfl rfl (by kernel_rfl)
def knowns : List (FuncId × List Value × Value) := [(23, [], .bool true), (34, [], .bool true), (44, [], .bool true)]
theorem knowns_ok : ∀ q ∈ knowns, Known Try.prog q := by
  intro q hq
  simp only [knowns, List.mem_cons, List.not_mem_nil, or_false] at hq
  rcases hq with rfl | rfl | rfl
  · exact wakes_23
  · exact wakes_34
  · exact wakes_44
def summAll : XCall := orS (summC knowns) summL
theorem summAll_ok [Toks] : CallOk Try.prog summAll := orS_ok (summC_ok knowns_ok) summL_ok
theorem summAll_mono : CallMono summAll := orS_mono (summC_mono _) summL_mono
end Go.Proofs.Ytplmfmcogbdpjaa
