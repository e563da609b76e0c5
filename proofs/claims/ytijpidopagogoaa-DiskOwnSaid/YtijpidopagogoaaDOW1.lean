/- What the plain terms find of DiskOwn: a part of the cases. -/
import Derived.Test.YtijpidopagogoaaDOWD
namespace Go.Proofs.Ytijpidopagogoaa.diskOwn
set_option maxRecDepth 1000000
theorem al0_0 (tl : List Value) (el K : Nat) : ((List.range' 0 10).all fun n => run (.slice (some ⟨0, 0, none⟩) (n + 1) (K + (n + 1))) (heapOf [⟨(.int .u8 0) :: (byteToks 0 n 1 ++ tl), el, 2, 1⟩])) = true := by kernel_rfl
theorem al0_10 (tl : List Value) (el K : Nat) : ((List.range' 10 10).all fun n => run (.slice (some ⟨0, 0, none⟩) (n + 1) (K + (n + 1))) (heapOf [⟨(.int .u8 0) :: (byteToks 0 n 1 ++ tl), el, 2, 1⟩])) = true := by kernel_rfl
theorem ab0 (tl : List Value) (el K M : Nat) : run (.slice (some ⟨0, 0, none⟩) (M + 21) (K + (M + 21))) (heapOf [⟨(.int .u8 0) :: (byteToks 0 19 1 ++ tl), el, 2, 1⟩]) = true := by kernel_rfl
end Go.Proofs.Ytijpidopagogoaa.diskOwn
