/- A map's entries, with the order in which they came. -/
import Derived.Test.YtplmfmcogbdpjaaMapW
namespace Go.Proofs.Ytplmfmcogbdpjaa
open Go.ChangeShapes Go.WideShapes Go.ChangeAt Go.RowKit
set_option linter.unusedVariables false
def MapB (w : World) (b : Nat) (kvs : List (Value × Value)) : Prop := ∃ es ck, w.heap[b]? = some (.map es ck) ∧ es.toList.map (fun e => (e.key, e.val)) = kvs ∧ (∀ e ∈ es.toList, e.born < ck) ∧ (es.toList.map (·.born)).Nodup
section
variable [Toks]
variable {P : Program} {w : World} {b : Nat} {kvs : List (Value × Value)} {t kt et : TypeId} {k : Value}
omit [Toks] in
theorem MapB.at_ (h : MapB w b kvs) : MapAt w b kvs := by
  obtain ⟨es, ck, h1, h2, _⟩ := h
  exact ⟨es, ck, h1, h2⟩
omit [Toks] in
theorem MapB.lt (h : MapB w b kvs) : b < w.heap.size := h.at_.lt
omit [Toks] in
theorem MapB.keep {w' : World} (h : MapB w b kvs) (he : w'.heap[b]? = w.heap[b]?) : MapB w' b kvs := by
  obtain ⟨es, ck, h1, h2⟩ := h
  exact ⟨es, ck, he.trans h1, h2⟩
omit [Toks] in
theorem MapB.made (w : World) : MapB (w.alloc (.map #[] 0)) w.heap.size [] := ⟨#[], 0, (MapKept.heap_alloc w _).1, rfl, by simp, by simp⟩
theorem MapB.put_no (hm : MapB w b kvs) (ht : P.underlying t = some (.map kt et)) (hkv : Kv P kt kvs) (hk : keyFit P kt k = true) (hno : ∀ p ∈ kvs, beq1 k p.1 = false) (v : Value) :
    ∃ w', (Instr.mapUpdate t (.map (some b)) k v).run P w = .ok () w' ∧ MapB w' b (kvs ++ [(k, v)]) ∧ w.grownBy w' (some b) := by
  obtain ⟨es, ck, hw, he, hbo, hnd⟩ := hm
  have hK := keyFit_ok hk
  obtain ⟨r', g1, _, g3⟩ := find_ok hK w (kv_rel hkv he) 0 (findE_no kvs 0 (fun p hp => (hkv p hp).1) hno)
  have hr' : r' = none := g3
  subst hr'
  have hlt := (Array.getElem?_eq_some_iff.1 hw).1
  refine ⟨{ w with heap := w.heap.setIfInBounds b (.map (es.push ⟨k, v, ck⟩) (ck + 1)) }, ?_, ⟨es.push ⟨k, v, ck⟩, ck + 1, getset hlt, by simp [he], ?_, ?_⟩, grown_setMap _⟩
  · simp only [Instr.mapUpdate, Sem.run_bind, run_underlying ht, Result.andThen_ok, run_getObj (P := P) hw (by intro _ _ _ e; cases e), hK.check, g1, Option.map_none]
    exact run_setObj hw (by intro _ _ _ e; cases e)
  · intro x hx
    simp only [Array.toList_push, List.mem_append, List.mem_singleton] at hx
    rcases hx with hx | rfl
    · exact Nat.lt_succ_of_lt (hbo x hx)
    · exact Nat.lt_succ_self _
  · simp only [Array.toList_push, List.map_append, List.map_cons, List.map_nil]
    rw [List.nodup_append]
    refine ⟨hnd, by simp, ?_⟩
    intro a ha b hb e
    simp only [List.mem_singleton] at hb
    subst hb e
    obtain ⟨x, hx, hxa⟩ := List.mem_map.1 ha
    exact absurd (hbo x hx) (by rw [hxa]; exact Nat.lt_irrefl _)
theorem MapB.del_yes (hm : MapB w b kvs) (ht : P.underlying t = some (.map kt et)) (hkv : Kv P kt kvs) {j : Nat} {u : Value} (hj : kvs[j]? = some (k, u)) (hb : beq1 k k = true) (hfst : ∀ (m : Nat) (p : Value × Value), m < j → kvs[m]? = some p → beq1 k p.1 = false) (ty : TypeId) :
    ∃ w', (Builtin.delete_ #[t, kt] ty #[.map (some b), k]).run P w = .ok (.tuple #[]) w' ∧ MapB w' b (kvs.eraseIdx j) ∧ w.grownBy w' (some b) := by
  obtain ⟨es, ck, hw, he, hbo, hnd⟩ := hm
  have hK := keyFit_ok (hkv (k, u) (List.mem_of_getElem? hj)).1
  obtain ⟨r', g1, _, g3⟩ := find_ok hK w (kv_rel hkv he) 0 (findE_yes kvs 0 j (fun p hp => (hkv p hp).1) hj hb hfst)
  obtain ⟨v', e, hr', _, _, he2, he1, he3, _⟩ := g3
  subst hr'
  rw [Nat.zero_add, Nat.sub_zero] at he2
  have hlt := (Array.getElem?_eq_some_iff.1 hw).1
  have hjl : j < es.size := by have := (List.getElem?_eq_some_iff.1 he2).1; simpa using this
  have her : (es.eraseIdxIfInBounds j).toList = es.toList.eraseIdx j := by simp [Array.eraseIdxIfInBounds, hjl]
  refine ⟨{ w with heap := w.heap.setIfInBounds b (.map (es.eraseIdxIfInBounds j) ck) }, ?_, ⟨es.eraseIdxIfInBounds j, ck, getset hlt, by rw [her, List.eraseIdx_eq_take_drop_succ, List.map_append, List.map_take, List.map_drop, he, ← List.eraseIdx_eq_take_drop_succ], ?_, ?_⟩, grown_setMap _⟩
  · have e0 : (#[Value.map (some b), k] : Array Value)[0]? = some (.map (some b)) := rfl
    have e1 : (#[Value.map (some b), k] : Array Value)[1]? = some k := rfl
    have ht0 : (#[t, kt] : Array TypeId)[0]? = some t := rfl
    simp only [Builtin.delete_, ht0, e0, e1, Sem.run_bind, run_underlying ht, Result.andThen_ok, run_getObj (P := P) hw (by intro _ _ _ e; cases e), hK.check, g1, Option.map_some, Nat.zero_add, Nat.sub_zero, run_setObj (P := P) hw (by intro _ _ _ e; cases e), Sem.run_pure]
  · intro x hx
    rw [her] at hx
    exact hbo x (List.mem_of_mem_eraseIdx hx)
  · rw [her]
    exact hnd.sublist ((List.eraseIdx_sublist _ _).map _)
end
end Go.Proofs.Ytplmfmcogbdpjaa
