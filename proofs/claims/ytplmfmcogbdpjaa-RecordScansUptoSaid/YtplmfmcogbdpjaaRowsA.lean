/- Arguments that are rows of bytes: what the statement's frame tells of them; a list of rows in memory. -/
import Derived.Test.YtplmfmcogbdpjaaBase
import Derived.Deep.Matrix
namespace Go.Proofs.Ytplmfmcogbdpjaa
open Go Go.RowKit Go.ChangeShapes Go.WideShapes Go.ChangeAt
set_option linter.unusedVariables false
/-- A slice of slices of bytes that is handed in. -/
def ByteRows (w : World) (A : Option Addr) (n c : Nat) (X : List (List Int)) : Prop :=
  n ≤ c ∧ c ≤ maxLen ∧ X.length = n ∧ ∃ vs : List Value, Reads w w.heap.size 1 A n vs ∧ ∀ (i : Nat) (x : List Int), X[i]? = some x → ∃ A' n' c', vs[i]? = some (.slice A' n' c') ∧ IntRow .u8 w A' n' c' x
theorem byteRows_of {H : Type} {enc : TypeId × Value → H} {P : Program} {w : World} {held : Bool} {r : Reach} {b0 : Nat} {t e q : TypeId} {v : Value} {d : DataW H} {ps : List MemPlace} (ht : P.underlying t = some (.slice e)) (he : P.underlying e = some (.slice q)) (hq : P.underlying q = some (.int .u8)) (ce : P.cellsOf e = 1) (cq : P.cellsOf q = 1)
    (hval : Value.okWide P w r b0 t v) (h : DataW.Trod enc P w 0 (fun _ => true) held t v d ps) : ∃ A n c X, v = .slice A n c ∧ ByteRows w A n c X := by
  obtain ⟨A, n, c, rfl⟩ := okWide_slice ht hval
  obtain ⟨fuel, hf⟩ := h
  rcases Go.Deep.open_int_rows ht he hq ce cq hf with ⟨hcs, _⟩ | ⟨x, l, c', A', L, C, Z, hcs, _, hl, hm, _, hx⟩
  · simp [Value.cells] at hcs
    obtain ⟨rfl, rfl, rfl⟩ := hcs
    exact ⟨_, _, _, [], rfl, Nat.le_refl _, by simp [maxLen], rfl, [], Reads.none_, fun i x hx => by simp at hx⟩
  · simp [Value.cells] at hcs
    obtain ⟨rfl, rfl, rfl⟩ := hcs
    refine ⟨_, _, _, (List.range n).map fun r => (Z r).take (L r), rfl, hl, hm, by simp, (List.range n).map fun r => .slice (A' r) (L r) (C r), ⟨by simp, fun hn => ⟨x, rfl, ?_, ?_⟩⟩, fun i y hy => ?_⟩
    · have h0 := (hx 0 (by omega)).1
      have h9 := block_lt_of_cell h0
      rwa [block_of_add] at h9
    · intro j u hu
      rw [List.getElem?_map] at hu
      by_cases hj : j < n
      · rw [List.getElem?_range hj] at hu
        simp at hu
        rw [(hx j (by omega)).1, hu]
      · rw [List.getElem?_eq_none (by simp; omega)] at hu
        cases hu
    · rw [List.getElem?_map] at hy
      by_cases hi : i < n
      · rw [List.getElem?_range hi] at hy
        simp at hy
        obtain ⟨_, h1, h2, h3, h4, h5, h6⟩ := hx i (by omega)
        refine ⟨A' i, L i, C i, by rw [List.getElem?_map, List.getElem?_range hi]; rfl, h1, h2, by rw [← hy, List.length_take]; omega, ⟨by rw [← hy, List.length_map, List.length_take]; omega, fun hp => ?_⟩, fun z hz => h4 z (by rw [← hy] at hz; exact List.mem_of_mem_take hz)⟩
        cases hA : A' i with
        | none => have := h5 hA; omega
        | some a =>
          obtain ⟨_, h7⟩ := h6 a hA
          refine ⟨a, rfl, ?_, fun k u hu => ?_⟩
          · have h8 := h7 0 (by omega)
            have h9 := block_lt_of_cell h8
            rwa [block_of_add] at h9
          · rw [← hy, List.getElem?_map, List.getElem?_take] at hu
            split at hu
            · rename_i hk
              have hlt : k < (Z i).length := by omega
              rw [h7 k (by omega)]
              rw [List.getElem?_eq_getElem hlt] at hu
              simp at hu
              rw [← hu, List.getD_eq_getElem?_getD, List.getElem?_eq_getElem hlt]
              rfl
            · cases hu
      · rw [List.getElem?_eq_none (by simp; omega)] at hy
        cases hy
end Go.Proofs.Ytplmfmcogbdpjaa
