/- Arguments that are slices of structs of whole numbers and, last, bytes: what the statement's frame tells of them. -/
import Derived.Test.YtplmfmcogbdpjaaBase
import Derived.Deep.Slices
namespace Go.Proofs.Ytplmfmcogbdpjaa
open Go Go.RowKit Go.ChangeShapes Go.WideShapes
set_option linter.unusedVariables false
/-- A slice of structs of k numbers and bytes that is handed in, element by element. -/
def ActsB (k : Nat) (w : World) (A : Option Addr) (n : Nat) : Prop := ∀ i, i < n → ∃ (b off : Nat) (x : Nat → Int) (A' : Option Addr) (n' c' : Nat) (y : List Int), A = some ⟨b, off, none⟩ ∧ b < w.heap.size ∧ (∀ j, j < k → -9223372036854775808 ≤ x j ∧ x j ≤ 9223372036854775807) ∧ IntRow .u8 w A' n' c' y ∧
  ∀ (B : Nat) (w' : World), Below B w w' → w.heap.size ≤ B → (∀ j, j < k → w'.cell? ⟨b, off + i * (k + 1) + j, none⟩ = some (.int .i64 (x j))) ∧ w'.cell? ⟨b, off + i * (k + 1) + k, none⟩ = some (.slice A' n' c')
def ActsBArg (k : Nat) (w : World) (v : Value) : Prop := ∃ A n c, v = .slice A n c ∧ n ≤ c ∧ c ≤ maxLen ∧ ActsB k w A n
theorem actsB_of {H : Type} {enc : TypeId × Value → H} {P : Program} {w : World} {held : Bool} {r : Reach} {b0 : Nat} {t e q : TypeId} {fs : Array Field} {k : Nat} {v : Value} {d : DataW H} {ps : List MemPlace} (ht : P.underlying t = some (.slice e)) (he : P.underlying e = some (.struct fs)) (hk : P.cellsOf e = k + 1)
    (hf : ∀ j, j < k → ∃ f, fs[j]? = some f ∧ f.offset = j ∧ P.cellsOf f.type = 1 ∧ P.underlying f.type = some (.int .i64)) (hg : ∃ f, fs[k]? = some f ∧ f.offset = k ∧ P.cellsOf f.type = 1 ∧ P.underlying f.type = some (.slice q)) (hq : P.underlying q = some (.int .u8)) (cq : P.cellsOf q = 1)
    (hval : Value.okWide P w r b0 t v) (h : DataW.Trod enc P w 0 (fun _ => true) held t v d ps) : ActsBArg k w v := by
  obtain ⟨A, n, c, rfl⟩ := okWide_slice ht hval
  obtain ⟨fuel, hqq⟩ := h
  rcases Go.Deep.open_slice ht hqq with ⟨hcs, _⟩ | ⟨x, l, c', m, q', D, Pl, hcs, _, hl, hm, hmm, _, hx⟩
  · simp [Value.cells] at hcs
    obtain ⟨rfl, rfl, rfl⟩ := hcs
    exact ⟨none, 0, 0, rfl, Nat.le_refl _, Nat.zero_le _, fun i hi => absurd hi (Nat.not_lt_zero _)⟩
  · simp [Value.cells] at hcs
    obtain ⟨rfl, rfl, rfl⟩ := hcs
    simp only [if_true] at hmm
    subst hmm
    have hok : Cell.ok P w r b0 t (.slice (some x) n m) := by
      have hv := hval
      unfold Value.okWide at hv
      rw [ht] at hv
      simp only at hv
      unfold Cell.okWide at hv
      rw [ht] at hv
      exact hv
    unfold Cell.ok at hok
    rw [ht] at hok
    obtain ⟨_, _, _, hsp, row, cells, hsh, _⟩ := hok
    obtain ⟨xb, xo, xs⟩ := x
    simp only at hsp hsh
    subst hsp
    have hheap : ∃ cs el fz, w.heap[xb]? = some (.cells cs el fz) := by
      unfold World.shape? at hsh
      split at hsh
      · exact ⟨_, _, _, ‹_›⟩
      · cases hsh
    obtain ⟨cs, el, fz, hw⟩ := hheap
    have hlt : xb < w.heap.size := (Array.getElem?_eq_some_iff.1 hw).1
    refine ⟨_, n, m, rfl, hl, hm, fun i hi => ?_⟩
    obtain ⟨cs', h1, h2⟩ := hx i (by omega)
    rw [hk] at h1
    obtain ⟨_, hlen, hcell⟩ := World.cells?_some h1
    obtain ⟨xs, k2, _, _, _, hxl, hfs⟩ := DataW.trod_struct he h2
    have at_ : ∀ j (hj : j < k + 1), cs[xo + (i * (k + 1) + j)]? = some (cs'[j]'(by omega)) := fun j hj => by
      have e0 := hcell j hj
      have e1 : (((⟨xb, xo, none⟩ : Addr).add (i * (k + 1))).add j) = ⟨xb, xo + (i * (k + 1) + j), none⟩ := by
        rw [Go.Deep.add_add]
        exact add_plain _ _ _
      rw [e1, List.getElem?_eq_getElem (by omega)] at e0
      simpa [World.cell?, hw] using e0
    have some_ : ∀ (j : Nat) (f : Field), fs[j]? = some f → ∃ y, xs[j]? = some y := fun j f f1 => by
      have : j < xs.length := by
        rw [hxl]
        exact (Array.getElem?_eq_some_iff.1 f1).1
      exact ⟨_, List.getElem?_eq_getElem this⟩
    have one : ∀ j, j < k → ∃ z : Int, cs[xo + (i * (k + 1) + j)]? = some (.int .i64 z) ∧ -9223372036854775808 ≤ z ∧ z ≤ 9223372036854775807 := by
      intro j hj
      obtain ⟨f, f1, f2, f3, f4⟩ := hf j hj
      have g0 := hfs j f f1
      rw [f2, f3] at g0
      have hgt : (cs'.drop j).take 1 = [cs'[j]'(by omega)] := by
        rw [List.drop_eq_getElem_cons (by omega)]
        rfl
      rw [hgt] at g0
      obtain ⟨y, hy⟩ := some_ j f f1
      rw [hy] at g0
      obtain ⟨z, hz1, _, hz3⟩ := DataW.trod_int f4 g0
      injection hz1 with hz1 _
      have e0 := at_ j (by omega)
      rw [hz1] at e0
      exact ⟨z, e0, bounds_i64 hz3⟩
    obtain ⟨X, hX⟩ := Go.Deep.choose_lt one
    obtain ⟨f, f1, f2, f3, f4⟩ := hg
    have g0 := hfs k f f1
    rw [f2, f3] at g0
    have hgt : (cs'.drop k).take 1 = [cs'[k]'(by omega)] := by
      rw [List.drop_eq_getElem_cons (by omega)]
      rfl
    rw [hgt] at g0
    obtain ⟨y, hy⟩ := some_ k f f1
    rw [hy] at g0
    have e0 := at_ k (by omega)
    have row : ∃ (A' : Option Addr) (n' c' : Nat) (z : List Int), cs'[k]'(by omega) = .slice A' n' c' ∧ IntRow .u8 w A' n' c' z := by
      rcases open_ints f4 hq cq g0 with ⟨hcs, _⟩ | ⟨a', len', cap', zs, hcs, _, hl', hm', hz, _, hcell', hwz⟩
      · exact ⟨none, 0, 0, [], by simpa using hcs, Nat.le_refl _, by simp [maxLen], rfl, Reads.none_, fun z hz => by simp at hz⟩
      · simp only [if_true] at hz
        refine ⟨some a', len', cap', zs.take len', by simpa using hcs, hl', hm', by rw [List.length_take]; omega, ⟨by rw [List.length_map, List.length_take]; omega, fun hp => ⟨a', rfl, ?_, fun j u hu => ?_⟩⟩, fun z hz => hwz z (List.mem_of_mem_take hz)⟩
        · have h8 := hcell' 0 (by rw [hz]; omega)
          have h9 := block_lt_of_cell h8
          rwa [block_of_add] at h9
        · rw [List.getElem?_map, List.getElem?_take] at hu
          split at hu
          · rename_i hk2
            have hlt2 : j < zs.length := by omega
            rw [hcell' j hlt2]
            rw [List.getElem?_eq_getElem hlt2] at hu
            simp at hu
            rw [← hu, List.getD_eq_getElem?_getD, List.getElem?_eq_getElem hlt2]
            rfl
          · cases hu
    obtain ⟨A', n', c', z, hz1, hz2⟩ := row
    rw [hz1] at e0
    refine ⟨xb, xo, X, A', n', c', z, rfl, hlt, fun j hj => (hX j hj).2, hz2, fun B w' hb hB => ?_⟩
    have hkeep := hb.block xb (by omega)
    refine ⟨fun j hj => ?_, ?_⟩
    · simp only [World.cell?, hkeep, hw]
      rw [Nat.add_assoc]
      simpa using (hX j hj).1
    · simp only [World.cell?, hkeep, hw]
      rw [Nat.add_assoc]
      simpa using e0
end Go.Proofs.Ytplmfmcogbdpjaa
