/- An argument that is a struct of whole numbers: what the statement's frame tells of it. -/
import Derived.Test.YtbioljbiohdflaaGreatDoorBase
import Derived.Lib.SmallJoins
import Derived.Deep.Slices
namespace Go.Proofs.YtbioljbiohdflaaGreatDoor
open Go Go.Joins Go.RowKit Go.ChangeShapes Go.WideShapes Go.Deep
set_option linter.unusedVariables false
def SetArg (k : Nat) (v : Value) : Prop := ∃ l : List Int, l.length = k ∧ v = .agg (l.map (Value.int .i64)).toArray ∧ ∀ z ∈ l, -9223372036854775808 ≤ z ∧ z ≤ 9223372036854775807
theorem set_of {H : Type} {enc : TypeId × Value → H} {P : Program} {w : World} {base : Nat} {spare : Nat → Bool} {held : Bool} {r : Reach} {b0 : Nat} {t : TypeId} {fs : Array Field} {k : Nat} {v : Value} {d : DataW H} {p : List MemPlace} (hs : P.underlying t = some (.struct fs)) (hC : P.cellsOf t = k)
    (hf : ∀ j, j < k → ∃ f, fs[j]? = some f ∧ f.offset = j ∧ P.cellsOf f.type = 1 ∧ P.underlying f.type = some (.int .i64))
    (hv : Value.okWide P w r b0 t v) (h : DataW.Trod enc P w base spare held t v d p) : SetArg k v := by
  obtain ⟨cs, rfl, hsz⟩ := okWide_struct hs hv
  obtain ⟨fuel, hq⟩ := h
  obtain ⟨xs, n, _, hx, _, hxl, hg⟩ := DataW.trod_struct hs hq
  have hl : cs.toList.length = k := by rw [Array.length_toList]; exact hsz.trans hC
  have one : ∀ j, j < k → ∃ z : Int, cs.toList[j]? = some (.int .i64 z) ∧ -9223372036854775808 ≤ z ∧ z ≤ 9223372036854775807 := by
    intro j hj
    obtain ⟨f, f1, f2, f3, f4⟩ := hf j hj
    have g0 := hg j f f1
    rw [f2, f3] at g0
    have hgt : ((Value.agg cs).cells.toList.drop j).take 1 = [cs.toList[j]'(by omega)] := by
      show (cs.toList.drop j).take 1 = _
      rw [List.drop_eq_getElem_cons (by omega)]
      rfl
    rw [hgt] at g0
    have : j < xs.length := by
      rw [hxl]
      exact (Array.getElem?_eq_some_iff.1 f1).1
    rw [List.getElem?_eq_getElem this] at g0
    obtain ⟨z, hz1, _, hz3⟩ := DataW.trod_int f4 g0
    injection hz1 with hz1 _
    exact ⟨z, by rw [List.getElem?_eq_getElem (by omega), hz1], bounds_i64 hz3⟩
  obtain ⟨X, hX⟩ := Go.Deep.choose_lt one
  refine ⟨(List.range k).map X, by simp, ?_, fun z hz => ?_⟩
  · congr 1
    apply Array.toList_inj.1
    rw [List.map_map]
    refine List.ext_getElem? fun j => ?_
    by_cases hj : j < k
    · rw [(hX j hj).1]
      simp [hj]
    · rw [List.getElem?_eq_none (by omega), List.getElem?_eq_none (by simp; omega)]
  · obtain ⟨j, hj, rfl⟩ := List.mem_map.1 hz
    exact (hX j (List.mem_range.1 hj)).2
end Go.Proofs.YtbioljbiohdflaaGreatDoor
