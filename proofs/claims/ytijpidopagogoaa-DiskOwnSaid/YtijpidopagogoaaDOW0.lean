/- What the plain terms find of DiskOwn: a part of the cases. -/
import Derived.Test.YtijpidopagogoaaDOWD
namespace Go.Proofs.Ytijpidopagogoaa.diskOwn
set_option maxRecDepth 1000000
theorem anil : run (.slice none 0 0) (heapOf []) = true := by kernel_rfl
theorem az0 (tl : List Value) (el : Nat) : run (.slice (some ⟨0, 0, none⟩) 0 0) (heapOf [⟨byteToks 0 0 0 ++ tl, el, 2, 1⟩]) = true := by kernel_rfl
theorem azk (tl : List Value) (el K : Nat) : run (.slice (some ⟨0, 0, none⟩) 0 ((K + 1) + 0)) (heapOf [⟨byteToks 0 0 0 ++ tl, el, 2, 1⟩]) = true := by kernel_rfl
end Go.Proofs.Ytijpidopagogoaa.diskOwn
