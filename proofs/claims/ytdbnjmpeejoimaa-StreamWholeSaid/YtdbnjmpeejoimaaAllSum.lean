/- The calls that are taken as known in this seat. -/
import Derived.Test.YtdbnjmpeejoimaaCfg
namespace Go.Proofs.Ytdbnjmpeejoimaa
open Go Go.RowKit
def summL : XCall := fun _ _ _ => none
theorem summL_ok [Toks] : CallOk Try.prog summL := CallOk.none
theorem summL_mono : CallMono summL := CallMono.none
set_option maxRecDepth 1000000 in
theorem wakes_21 : Known Try.prog (21, [], .bool true) :=
  known_of (okF := ⟨fun _ => true, fun _ _ => none, summL⟩) (n := 30000) (letI : Toks := ⟨fun _ => 0⟩; ⟨(fun _ _ _ h => nomatch h), summL_ok, summL_mono⟩) mixed (by kernel_rfl) rfl rfl (by kernel_rfl)
set_option maxRecDepth 1000000 in
theorem wakes_27 : Known Try.prog (27, [], .bool true) :=
  known_of (okF := ⟨fun _ => true, fun _ _ => none, summL⟩) (n := 30000) (letI : Toks := ⟨fun _ => 0⟩; ⟨(fun _ _ _ h => nomatch h), summL_ok, summL_mono⟩) mixed (by kernel_rfl) rfl rfl (by kernel_rfl)
set_option maxRecDepth 1000000 in
theorem wakes_39 : Known Try.prog (39, [], .bool true) :=
  known_of (okF := ⟨fun _ => true, fun _ _ => none, summL⟩) (n := 30000) (letI : Toks := ⟨fun _ => 0⟩; ⟨(fun _ _ _ h => nomatch h), summL_ok, summL_mono⟩) mixed (by kernel_rfl) rfl rfl (by kernel_rfl)
set_option maxRecDepth 1000000 in
theorem wakes_42 : Known Try.prog (42, [], .bool true) :=
  known_of (okF := ⟨fun _ => true, fun _ _ => none, summL⟩) (n := 30000) (letI : Toks := ⟨fun _ => 0⟩; ⟨(fun _ _ _ h => nomatch h), summL_ok, summL_mono⟩) mixed (by kernel_rfl) rfl rfl (by kernel_rfl)
set_option maxRecDepth 1000000 in
theorem wakes_47 : Known Try.prog (47, [], .bool true) :=
  known_of (okF := ⟨fun _ => true, fun _ _ => none, summL⟩) (n := 30000) (letI : Toks := ⟨fun _ => 0⟩; ⟨(fun _ _ _ h => nomatch h), summL_ok, summL_mono⟩) mixed (by kernel_rfl) rfl rfl (by kernel_rfl)
set_option maxRecDepth 1000000 in
theorem wakes_55 : Known Try.prog (55, [], .bool true) :=
  known_of (okF := ⟨fun _ => true, fun _ _ => none, summL⟩) (n := 30000) (letI : Toks := ⟨fun _ => 0⟩; ⟨(fun _ _ _ h => nomatch h), summL_ok, summL_mono⟩) mixed (by kernel_rfl) rfl rfl (by kernel_rfl)
def knowns : List (FuncId × List Value × Value) := [(21, [], .bool true), (27, [], .bool true), (39, [], .bool true), (42, [], .bool true), (47, [], .bool true), (55, [], .bool true)]
theorem knowns_ok : ∀ q ∈ knowns, Known Try.prog q := by
  intro q hq
  simp only [knowns, List.mem_cons, List.not_mem_nil, or_false] at hq
  rcases hq with rfl | rfl | rfl | rfl | rfl | rfl
  · exact wakes_21
  · exact wakes_27
  · exact wakes_39
  · exact wakes_42
  · exact wakes_47
  · exact wakes_55
def summAll : XCall := orS (summC knowns) summL
theorem summAll_ok [Toks] : CallOk Try.prog summAll := orS_ok (summC_ok knowns_ok) summL_ok
theorem summAll_mono : CallMono summAll := orS_mono (summC_mono _) summL_mono
end Go.Proofs.Ytdbnjmpeejoimaa
