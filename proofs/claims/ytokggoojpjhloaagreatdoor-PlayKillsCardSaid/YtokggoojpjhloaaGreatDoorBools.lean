/- Arguments that stand in memory: booleans. -/
import Derived.Test.YtokggoojpjhloaaGreatDoorArgs
namespace Go.Proofs.YtokggoojpjhloaaGreatDoor
open Go Go.RowKit Go.ChangeShapes Go.WideShapes Go.ChangeAt
/-- A slice of booleans that is handed in. -/
def BoolsArg (w : World) (v : Value) : Prop :=
  v = .slice none 0 0 ∨ ∃ (b off n c : Nat) (cs : Array Value) (el : TypeId) (fz : Nat × Nat) (xs : List Bool), v = .slice (some ⟨b, off, none⟩) n c ∧ n ≤ c ∧ w.heap[b]? = some (.cells cs el fz) ∧ xs.length = n ∧
    ∀ k x, xs[k]? = some x → cs[off + k]? = some (.bool x)
theorem bools_of {H : Type} {enc : TypeId × Value → H} {P : Program} {w : World} {held : Bool} {r : Reach} {b0 : Nat} {t e : TypeId} {v : Value} {d : DataW H} {ps : List MemPlace} (ht : P.underlying t = some (.slice e)) (he : P.underlying e = some .bool) (hc : P.cellsOf e = 1)
    (hval : Value.okWide P w r b0 t v) (h : DataW.Trod enc P w 0 (fun _ => true) held t v d ps) : BoolsArg w v := by
  obtain ⟨A, n, c, rfl⟩ := okWide_slice ht hval
  obtain ⟨fuel, hf⟩ := h
  rcases Go.Deep.open_slice1 ht hc hf with ⟨hcs, _⟩ | ⟨x, l, c', m, q, V, D, Pl, hcs, _, hl, hm, hmm, _, hx⟩
  · simp [Value.cells] at hcs
    obtain ⟨rfl, rfl, rfl⟩ := hcs
    exact .inl rfl
  · simp [Value.cells] at hcs
    obtain ⟨rfl, rfl, rfl⟩ := hcs
    simp only [if_true] at hmm
    subst hmm
    have hok : Cell.ok P w r b0 t (.slice (some x) n m) := by
      have hv := hval
      unfold Value.okWide at hv
      rw [ht] at hv
      simp only at hv
      unfold Cell.okWide at hv
      rw [ht] at hv
      exact hv
    unfold Cell.ok at hok
    rw [ht] at hok
    obtain ⟨_, _, _, hsp, row, cells, hsh, _⟩ := hok
    obtain ⟨xb, xo, xs⟩ := x
    simp only at hsp hsh
    subst hsp
    have hheap : ∃ cs el fz, w.heap[xb]? = some (.cells cs el fz) := by
      unfold World.shape? at hsh
      split at hsh
      · exact ⟨_, _, _, ‹_›⟩
      · cases hsh
    obtain ⟨cs, el, fz, hw⟩ := hheap
    obtain ⟨B, hB⟩ := Go.Deep.choose_lt (α := Bool) (p := fun i b => V i = .bool b) (fun i hi => by
      obtain ⟨b, h1, _⟩ := DataW.trod_bool he (hx i hi).2
      exact ⟨b, by simpa using h1⟩)
    refine .inr ⟨xb, xo, n, m, cs, el, fz, (List.range n).map B, rfl, hl, hw, by simp, fun k y hy => ?_⟩
    simp only [List.getElem?_map, Option.map_eq_some_iff] at hy
    obtain ⟨i, hi, rfl⟩ := hy
    have hlt : k < n := by simpa using (List.getElem?_eq_some_iff.1 hi).1
    have : i = k := by
      have := (List.getElem?_eq_some_iff.1 hi).2
      simpa using this.symm
    subst this
    have h1 := (hx i (by omega)).1
    have e1 : ((⟨xb, xo, none⟩ : Addr).add i) = ⟨xb, xo + i, none⟩ := add_plain _ _ _
    rw [e1, hB i (by omega)] at h1
    simpa [World.cell?, hw] using h1
section
variable [Toks]
/-- Its first few, known; how long it is. -/
theorem bools_held {w : World} {b off c : Nat} {cs : Array Value} {el : TypeId} {fz : Nat × Nat} {xs ys r : List Bool} (hw : w.heap[b]? = some (.cells cs el fz)) (hx : ∀ k x, xs[k]? = some x → cs[off + k]? = some (.bool x)) (he : xs = ys ++ r) :
    ArgsHeld [(⟨ys.map .bool, el, 2, 1⟩, ⟨b, c, off⟩)] w := by
  intro q hq
  simp only [List.mem_singleton] at hq
  subst hq
  refine ⟨rfl, cs, fz, hw, fun k u hu => ?_, fun h => absurd rfl h, fun h => absurd h (by show ¬ (2 : Nat) = 0; decide), fun h => absurd rfl h⟩
  simp only [List.getElem?_map, Option.map_eq_some_iff] at hu
  obtain ⟨y, hy, rfl⟩ := hu
  have hk := (List.getElem?_eq_some_iff.1 hy).1
  refine ⟨_, hx k y ?_, VR0.flat rfl⟩
  rw [he, List.getElem?_append_left hk]
  exact hy
theorem bools_rel {b off n c : Nat} {o : AObj} (hn : n ≤ c) : VR (fun i => (([(o, (⟨b, c, off⟩ : Loc))] : List (AObj × Loc))[i]?).map (·.2)) (.slice (some ⟨0, 0, some opened⟩) n n) (.slice (some ⟨b, off, none⟩) n c) :=
  ⟨Nat.le_refl _, ⟨b, c, off⟩, off, c, rfl, rfl, hn, fun _ => rfl, (fun h => nomatch h), fun _ _ _ => rfl⟩
end
end Go.Proofs.YtokggoojpjhloaaGreatDoor
