/- An argument of bytes whose first one is told apart. -/
import Derived.Test.YtijpidopagogoaaArgs
namespace Go.Proofs.Ytijpidopagogoaa
open Go Go.RowKit
variable [Toks]
theorem bytes_held_hd {w : World} {b off j L : Nat} {cs : Array Value} {el : TypeId} {fz : Nat × Nat} {xs : List Int} {hd : Value} (hL : L + 1 ≤ 9000) (hj : j < 50) (hw : w.heap[b]? = some (.cells cs el fz)) (hx : ∀ k x, xs[k]? = some x → cs[off + k]? = some (.int .u8 x) ∧ 0 ≤ x ∧ x ≤ 255)
    (hT : ∀ k, k < L + 1 → Toks.B (10000 * (j + 1) + k) = xs.getD k 0) (hn : L + 1 ≤ xs.length) (hh : VR0 (fun _ => none) hd (.int .u8 (xs.getD 0 0))) :
    CellHeld (fun _ => none) ⟨hd :: (byteToks j L 1 ++ (xs.drop (L + 1)).map (.int .u8)), el, 2, 1⟩ ⟨b, 0, off⟩ w := by
  obtain ⟨cs', fz', h1, h2, h3⟩ := bytes_held (j := j) (L := L + 1) (el := el) hL hj hw hx hT hn
  refine ⟨cs', fz', h1, fun k u hu => ?_, h3⟩
  cases k with
  | succ k => exact h2 (k + 1) u (by simpa [byteToks] using hu)
  | zero =>
    simp only [List.getElem?_cons_zero, Option.some.injEq] at hu
    subst hu
    obtain ⟨x, hx0⟩ : ∃ x, xs[0]? = some x := ⟨xs[0], List.getElem?_eq_getElem (by omega)⟩
    simp only at h1
    rw [hw] at h1
    injection h1 with h1
    injection h1 with h1
    subst h1
    refine ⟨_, (hx 0 x hx0).1, ?_⟩
    have : xs.getD 0 0 = x := by rw [List.getD_eq_getElem?_getD, hx0]; rfl
    rwa [this] at hh
end Go.Proofs.Ytijpidopagogoaa
