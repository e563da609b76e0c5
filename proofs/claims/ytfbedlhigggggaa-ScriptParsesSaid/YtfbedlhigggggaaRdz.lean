/- Reads that are cut. -/
import Derived.Test.YtfbedlhigggggaaBase
namespace Go.Proofs.Ytfbedlhigggggaa
open Go Go.RowKit
theorem Reads.takeZ {w : World} {B z n m : Nat} {A : Option Addr} {xs : List Value} (h : Reads w B z A n xs) (hm : m ≤ n) : Reads w B z A m (xs.take (m * z)) := by
  refine ⟨?_, fun hp => ?_⟩
  · rw [List.length_take, h.1]
    exact Nat.min_eq_left (Nat.mul_le_mul_right z hm)
  · obtain ⟨ad, e, hb, hc⟩ := h.2 (by omega)
    exact ⟨ad, e, hb, fun j u hu => hc j u (by
      rw [List.getElem?_take] at hu
      split at hu
      · exact hu
      · cases hu)⟩
theorem add_zero_off (u n : Nat) : ((⟨u, 0, none⟩ : Addr).add n) = ⟨u, n, none⟩ := by
  unfold Addr.add
  split <;> simp_all
end Go.Proofs.Ytfbedlhigggggaa
