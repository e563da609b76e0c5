/- Arguments that are slices of structs of whole numbers: what the statement's frame tells of them. -/
import Derived.Test.YtiflhfhonhbcpaaBase
import Derived.Deep.Slices
namespace Go.Proofs.Ytiflhfhonhbcpaa
open Go Go.RowKit Go.ChangeShapes Go.WideShapes Go.ChangeAt
/-- A slice of structs of k numbers that is handed in. -/
def ActsArg (k : Nat) (w : World) (v : Value) : Prop :=
  v = .slice none 0 0 ∨ ∃ (b off n c : Nat) (cs : Array Value) (el : TypeId) (fz : Nat × Nat) (X : Nat → Nat → Int), v = .slice (some ⟨b, off, none⟩) n c ∧ n ≤ c ∧ c ≤ maxLen ∧ w.heap[b]? = some (.cells cs el fz) ∧
    ∀ i j, i < n → j < k → cs[off + (i * k + j)]? = some (.int .i64 (X i j)) ∧ -9223372036854775808 ≤ X i j ∧ X i j ≤ 9223372036854775807
theorem acts_of {H : Type} {enc : TypeId × Value → H} {P : Program} {w : World} {held : Bool} {r : Reach} {b0 : Nat} {t e : TypeId} {fs : Array Field} {k : Nat} {v : Value} {d : DataW H} {ps : List MemPlace} (ht : P.underlying t = some (.slice e)) (he : P.underlying e = some (.struct fs)) (hk : P.cellsOf e = k)
    (hf : ∀ j, j < k → ∃ f, fs[j]? = some f ∧ f.offset = j ∧ P.cellsOf f.type = 1 ∧ P.underlying f.type = some (.int .i64))
    (hval : Value.okWide P w r b0 t v) (h : DataW.Trod enc P w 0 (fun _ => true) held t v d ps) : ActsArg k w v := by
  obtain ⟨A, n, c, rfl⟩ := okWide_slice ht hval
  obtain ⟨fuel, hq⟩ := h
  rcases Go.Deep.open_slice ht hq with ⟨hcs, _⟩ | ⟨x, l, c', m, q, D, Pl, hcs, _, hl, hm, hmm, _, hx⟩
  · simp [Value.cells] at hcs
    obtain ⟨rfl, rfl, rfl⟩ := hcs
    exact .inl rfl
  · simp [Value.cells] at hcs
    obtain ⟨rfl, rfl, rfl⟩ := hcs
    simp only [if_true] at hmm
    subst hmm
    have hok : Cell.ok P w r b0 t (.slice (some x) n m) := by
      have hv := hval
      unfold Value.okWide at hv
      rw [ht] at hv
      simp only at hv
      unfold Cell.okWide at hv
      rw [ht] at hv
      exact hv
    unfold Cell.ok at hok
    rw [ht] at hok
    obtain ⟨_, _, _, hsp, row, cells, hsh, _⟩ := hok
    obtain ⟨xb, xo, xs⟩ := x
    simp only at hsp hsh
    subst hsp
    have hheap : ∃ cs el fz, w.heap[xb]? = some (.cells cs el fz) := by
      unfold World.shape? at hsh
      split at hsh
      · exact ⟨_, _, _, ‹_›⟩
      · cases hsh
    obtain ⟨cs, el, fz, hw⟩ := hheap
    have each : ∀ i, i < n → ∃ g : Nat → Int, ∀ j, j < k → cs[xo + (i * k + j)]? = some (.int .i64 (g j)) ∧ -9223372036854775808 ≤ g j ∧ g j ≤ 9223372036854775807 := by
      intro i hi
      obtain ⟨cs', h1, h2⟩ := hx i (by omega)
      rw [hk] at h1
      obtain ⟨_, hlen, hcell⟩ := World.cells?_some h1
      obtain ⟨xs, k2, _, _, _, hxl, hfs⟩ := DataW.trod_struct he h2
      have one : ∀ j, j < k → ∃ z : Int, cs[xo + (i * k + j)]? = some (.int .i64 z) ∧ -9223372036854775808 ≤ z ∧ z ≤ 9223372036854775807 := by
        intro j hj
        obtain ⟨f, f1, f2, f3, f4⟩ := hf j hj
        have g0 := hfs j f f1
        rw [f2, f3] at g0
        have hgt : (cs'.drop j).take 1 = [cs'[j]'(by omega)] := by
          rw [List.drop_eq_getElem_cons (by omega)]
          rfl
        rw [hgt] at g0
        cases hxs : xs[j]? with
        | none =>
          rw [hxs] at g0
          exfalso
          have : j < xs.length := by
            rw [hxl]
            exact (Array.getElem?_eq_some_iff.1 f1).1
          rw [List.getElem?_eq_none_iff] at hxs
          omega
        | some y =>
          rw [hxs] at g0
          obtain ⟨z, hz1, _, hz3⟩ := DataW.trod_int f4 g0
          have e0 := hcell j hj
          have e1 : (((⟨xb, xo, none⟩ : Addr).add (i * k)).add j) = ⟨xb, xo + (i * k + j), none⟩ := by
            rw [Go.Deep.add_add]
            exact add_plain _ _ _
          rw [e1, List.getElem?_eq_getElem (by omega)] at e0
          injection hz1 with hz1 _
          rw [hz1] at e0
          exact ⟨z, by simpa [World.cell?, hw] using e0, bounds_i64 hz3⟩
      obtain ⟨g, hg⟩ := Go.Deep.choose_lt one
      exact ⟨g, hg⟩
    obtain ⟨G, hG⟩ := Go.Deep.choose_lt each
    exact .inr ⟨xb, xo, n, m, cs, el, fz, G, rfl, hl, hm, hw, fun i j hi hj => hG i hi j hj⟩
/-- The same, element by element. -/
def ActsU (k : Nat) (w : World) (A : Option Addr) (n : Nat) : Prop := ∀ i, i < n → ∃ (b off : Nat) (x : Nat → Int), A = some ⟨b, off, none⟩ ∧ b < w.heap.size ∧ (∀ j, j < k → -9223372036854775808 ≤ x j ∧ x j ≤ 9223372036854775807) ∧
  ∀ (B : Nat) (w' : World), Below B w w' → w.heap.size ≤ B → ∀ j, j < k → w'.cell? ⟨b, off + i * k + j, none⟩ = some (.int .i64 (x j))
theorem acts_u {k : Nat} {w : World} {v : Value} (h : ActsArg k w v) : ∃ A n c, v = .slice A n c ∧ n ≤ c ∧ c ≤ maxLen ∧ ActsU k w A n := by
  rcases h with rfl | ⟨b, off, n, c, cs, el, fz, X, rfl, h1, h2, h3, h4⟩
  · exact ⟨none, 0, 0, rfl, Nat.le_refl _, Nat.zero_le _, fun i hi => absurd hi (Nat.not_lt_zero _)⟩
  · have hlt : b < w.heap.size := (Array.getElem?_eq_some_iff.1 h3).1
    refine ⟨_, n, c, rfl, h1, h2, fun i hi => ⟨b, off, X i, rfl, hlt, fun j hj => (h4 i j hi hj).2, fun B w' hb hB j hj => ?_⟩⟩
    have := hb.block b (by omega)
    simp only [World.cell?, this, h3]
    rw [Nat.add_assoc]
    simpa using (h4 i j hi hj).1
end Go.Proofs.Ytiflhfhonhbcpaa
