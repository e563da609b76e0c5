/- hostlerlaw11's wakes: run once by the executor. -/
import Derived.Test.YtlldpgjifdfogaaAllSum
namespace Go.Proofs.Ytlldpgjifdfogaa
open Go Go.RowKit
set_option maxRecDepth 1000000 in
theorem wakes_11 : Known Try.prog (21, [], .bool true) :=
  known_of (okF := ⟨fun _ => true, fun _ _ => none, summL⟩) (n := 30000) (letI : Toks := ⟨fun _ => 0⟩; ⟨(fun _ _ _ h => nomatch h), summL_ok, summL_mono⟩) mixed (by kernel_rfl) rfl rfl (by kernel_rfl)
end Go.Proofs.Ytlldpgjifdfogaa
