/- Bytes that are handed in, and how much of the reading they are. -/
import Derived.Test.YtplmfmcogbdpjaaBase
import Derived.Test.YtplmfmcogbdpjaaRows
namespace Go.Proofs.Ytplmfmcogbdpjaa
open Go Go.RowKit Go.ChangeShapes Go.WideShapes Go.ChangeAt
set_option linter.unusedVariables false
theorem ints_of2 {H : Type} {enc : TypeId × Value → H} {P : Program} {w : World} {held : Bool} {r : Reach} {b0 : Nat} {t e : TypeId} {k : IntKind} {v : Value} {d : DataW H} {ps : List MemPlace} (ht : P.underlying t = some (.slice e)) (he : P.underlying e = some (.int k)) (hc : P.cellsOf e = 1)
    (hval : Value.okWide P w r b0 t v) (h : DataW.Trod enc P w 0 (fun _ => true) held t v d ps) : ∃ A n c xs, v = .slice A n c ∧ IntRow k w A n c xs ∧ (n = 0 ∨ ∃ el sp, d = .slice el sp ∧ el.length + sp.length = c) := by
  obtain ⟨A, n, c, xs, rfl, hI⟩ := ints_of ht he hc hval h
  refine ⟨A, n, c, xs, rfl, hI, ?_⟩
  obtain ⟨fuel, hf⟩ := h
  rcases open_ints ht he hc hf with ⟨hcs, _⟩ | ⟨x, l, c', zs, hcs, _, hl, hm, hz, hx, _⟩
  · simp [Value.cells] at hcs
    exact .inl hcs.2.1
  · simp [Value.cells] at hcs
    obtain ⟨rfl, rfl, rfl⟩ := hcs
    have hz' : zs.length = c := by simpa using hz
    injection hx with hx1 hx2
    exact .inr ⟨_, _, hx1, by simp [lits]; omega⟩
theorem bulk_one {H : Type} (d : DataW H) : 1 ≤ Rows.uptoBulk d := by
  cases d with
  | lit x => cases x <;> simp [Rows.uptoBulk]
  | _ => simp [Rows.uptoBulk]
theorem bulk_len {H : Type} : ∀ l : List (DataW H), l.length ≤ Rows.uptoBulkAll l
  | [] => by simp [Rows.uptoBulkAll]
  | d :: l => by
    have h1 := bulk_one d
    have h2 := bulk_len l
    simp only [Rows.uptoBulkAll, List.length_cons]
    omega
theorem bulk_mem {H : Type} {d : DataW H} : ∀ {l : List (DataW H)}, d ∈ l → Rows.uptoBulk d ≤ Rows.uptoBulkAll l
  | [], h => by simp at h
  | e :: l, h => by
    simp only [Rows.uptoBulkAll]
    rcases List.mem_cons.1 h with rfl | h
    · omega
    · have := bulk_mem h
      omega
theorem upto_n {H : Type} {ds : List (DataW H)} {d : DataW H} {n c : Nat} (hs : Rows.uptoSmall H ds = true) (hm : d ∈ ds) (hn : n ≤ c) (h : n = 0 ∨ ∃ el sp, d = .slice el sp ∧ el.length + sp.length = c) : n ≤ 1048576 := by
  have h0 : Rows.uptoBulkAll ds ≤ 1048576 := of_decide_eq_true hs
  rcases h with rfl | ⟨el, sp, rfl, hl⟩
  · omega
  · have h1 := bulk_mem hm
    have h2 := bulk_len el
    have h3 := bulk_len sp
    simp only [Rows.uptoBulk] at h1
    omega
end Go.Proofs.Ytplmfmcogbdpjaa
