/- The contract of strings.HasPrefix, and the steps of a range over a map. -/
import Derived.Test.YtolignkahfekbaaGreatDoorListDef
import Derived.Test.YtolignkahfekbaaGreatDoorBase
import Derived.Sort.EncStr
import Derived.Test.YtolignkahfekbaaGreatDoorRows
import Derived.Laws.StructEq
namespace Go.Proofs.YtolignkahfekbaaGreatDoor
open Go.ChangeShapes Go.WideShapes Go.ChangeAt Go.RowKit
theorem startsB_take : ∀ (p s : List UInt8), startsB p s = (decide (p.length ≤ s.length) && decide (s.take p.length = p))
  | [], s => by simp [startsB]
  | a :: p, [] => by simp [startsB]
  | a :: p, b :: s => by
    rw [startsB, startsB_take p s]
    by_cases h : a = b
    · subst h; simp
    · have h' : ¬ b = a := fun e => h e.symm
      simp [h, h']
set_option maxRecDepth 100000 in
theorem HasPrefixL_any (s p : ByteArray) (w : World) :
    Calls Tryz.prog 219 #[.string s, .string p] w fun e w' => e = .returned (.bool (startsB p.data.toList s.data.toList)) ∧ w = w' := by
  by_cases h : p.size ≤ s.size
  · have e1 : ((s.extract 0 p.size).toList == p.toList) = startsB p.data.toList s.data.toList := by
      rw [startsB_take, ByteArray.toList_eq, ByteArray.toList_eq]
      have h1 : p.data.toList.length ≤ s.data.toList.length := by simpa using h
      have h2 : (s.extract 0 p.size).data.toList = s.data.toList.take p.data.toList.length := by simp
      rw [h2, decide_eq_true h1, Bool.true_and]
      by_cases e : s.data.toList.take p.data.toList.length = p.data.toList
      · rw [decide_eq_true e, beq_iff_eq.2 e]
      · rw [decide_eq_false e, beq_eq_false_iff_ne.2 e]
    have H := Lib.hid e1
    clear e1
    have hk : (p.size : Int) ≤ (s.size : Int) := by omega
    go_enter Tryz.func219, Tryz.ntmps219
    go_wp2
    go_ret
    exact ⟨by show Ending.returned (.bool ((s.extract 0 p.size).toList == p.toList)) = _; rw [H.out], rfl⟩
  · have e1 : startsB p.data.toList s.data.toList = false := by
      rw [startsB_take]
      have h1 : ¬ p.data.toList.length ≤ s.data.toList.length := by simpa using h
      rw [decide_eq_false h1, Bool.false_and]
    rw [e1]
    have hk : ¬ (p.size : Int) ≤ (s.size : Int) := by omega
    go_enter Tryz.func219, Tryz.ntmps219
    go_wp2
    go_ret
    exact ⟨rfl, rfl⟩
theorem HasPrefix_any (s p : ByteArray) (w : World) :
    Calls Tryz.prog 157 #[.string s, .string p] w fun e w' => e = .returned (.bool (startsB p.data.toList s.data.toList)) ∧ w = w' := by
  go_enter Tryz.func157, Tryz.ntmps157
  go_wp2_with (go_at_call 219; refine (HasPrefixL_any _ _ _).mono ?_; rintro e w' ⟨rfl, rfl⟩)
  go_ret
  exact ⟨rfl, rfl⟩

/-! A range over a map. -/
section
variable {P : Program} {w : World} {ri mb ck : Nat} {es : Array MapEntry} {seen : Array Nat}
def iterSeen (w : World) (ri mb ck : Nat) (seen : Array Nat) : Prop := w.heap[ri]? = some (.mapIter (some mb) ck seen ck)
theorem filter_none {l : List MapEntry} {p : MapEntry → Bool} (h : ∀ e ∈ l, p e = false) : l.filter p = [] := by
  rw [List.filter_eq_nil_iff]
  intro e he
  rw [h e he]
  simp
theorem run_next_map (hit : iterSeen w ri mb ck seen) (hm : w.heap[mb]? = some (.map es ck)) (hb : ∀ e ∈ es.toList, e.born < ck) (ty : TypeId) :
    ((∀ e ∈ es.toList, seen.contains e.born = true) ∧ (Instr.next (.pointer (some ⟨ri, 0, none⟩)) false ty).run P w = .ok (.tuple #[.bool false]) w) ∨
    ∃ e n, e ∈ es.toList ∧ seen.contains e.born = false ∧ (Instr.next (.pointer (some ⟨ri, 0, none⟩)) false ty).run P w = .ok (.tuple #[.bool true, e.key, e.val]) { w with drawn := n, heap := w.heap.setIfInBounds ri (.mapIter (some mb) ck (seen.push e.born) ck) } := by
  have hg1 : (getObj ri).run P w = .ok (.mapIter (some mb) ck seen ck) w := by simp only [getObj, Sem.run, show w.heap[ri]? = some (.mapIter (some mb) ck seen ck) from hit]
  have hg2 : (getObj mb).run P w = .ok (.map es ck) w := by simp only [getObj, Sem.run, hm]
  have hold : (es.filter fun e => !seen.contains e.born).filter (fun e => decide (e.born < ck)) = es.filter fun e => !seen.contains e.born := by
    apply Array.toList_inj.1
    simp only [Array.toList_filter]
    rw [List.filter_eq_self]
    intro e he
    exact decide_eq_true (hb e (List.mem_filter.1 he).1)
  have hnew : (es.filter fun e => !seen.contains e.born).filter (fun e => decide (e.born ≥ ck)) = #[] := by
    apply Array.toList_inj.1
    simp only [Array.toList_filter]
    refine filter_none fun e he => ?_
    have := hb e (List.mem_filter.1 he).1
    exact decide_eq_false (by omega)
  have hall : ((!seen.isEmpty && !es.isEmpty) && es.all fun e => decide (e.born ≥ ck)) = false := by
    by_cases h0 : es.isEmpty = true
    · simp [h0]
    · have : es.all (fun e => decide (e.born ≥ ck)) = false := by
        rw [Bool.eq_false_iff]
        intro hh
        rw [Array.all_eq_true'] at hh
        have hne : 0 < es.size := by
          rcases Nat.eq_zero_or_pos es.size with h | h
          · exact absurd (by simpa [Array.isEmpty_iff] using h) h0
          · exact h
        have hx := hh es[0] (by simp)
        have := hb es[0] (by simp)
        have h2 := of_decide_eq_true hx
        omega
      rw [this, Bool.and_false]
  by_cases hd : ∀ e ∈ es.toList, seen.contains e.born = true
  · left
    refine ⟨hd, ?_⟩
    have hl : (es.filter fun e => !seen.contains e.born) = #[] := by
      apply Array.toList_inj.1
      simp only [Array.toList_filter]
      exact filter_none fun e he => by rw [hd e he]; rfl
    rw [hl] at hold hnew
    simp only [Instr.next, Sem.run_bind, hg1, hg2, Result.andThen_ok, hall, Bool.false_eq_true, if_false, hl]
    simp [choose, Sem.run, Question.forced]
  · right
    generalize hL : (es.filter fun e => !seen.contains e.born) = L at hold hnew
    have hLmem : ∀ e ∈ L.toList, e ∈ es.toList ∧ seen.contains e.born = false := by
      intro e he
      rw [← hL, Array.toList_filter, List.mem_filter] at he
      exact ⟨he.1, by simpa using he.2⟩
    have hne : 0 < L.size := by
      rcases Nat.eq_zero_or_pos L.size with h0 | h0
      · exfalso
        apply hd
        intro e he
        cases hc : seen.contains e.born with
        | true => rfl
        | false =>
          have : e ∈ L.toList := by rw [← hL, Array.toList_filter, List.mem_filter]; exact ⟨he, by rw [hc]; rfl⟩
          rw [Array.eq_empty_of_size_eq_zero h0] at this
          cases this
      · exact h0
    have hemp : L.isEmpty = false := by
      rw [Bool.eq_false_iff]
      intro h
      rw [Array.isEmpty_iff] at h
      rw [h] at hne
      exact absurd hne (by simp)
    have hset : ∀ (n : Nat) (o : Obj), (setObj ri o).run P { w with drawn := n } = .ok () { w with drawn := n, heap := w.heap.setIfInBounds ri o } := by
      intro n o
      simp only [setObj, Sem.run, show w.heap[ri]? = some (.mapIter (some mb) ck seen ck) from hit]
    have hch : ∃ k n, k < L.size ∧ (choose (.mapNext L.size)).run P w = .ok k { w with drawn := n } := by
      by_cases hf : L.size ≤ 1
      · exact ⟨0, w.drawn, hne, by simp [choose, Sem.run, Question.forced, hf]⟩
      · refine ⟨w.tape w.drawn (.mapNext L.size) % L.size, w.drawn + 1, Nat.mod_lt _ hne, ?_⟩
        simp [choose, Sem.run, Question.forced, hf, Question.cut]
    obtain ⟨k, n, hk, hck⟩ := hch
    have hkm := hLmem L[k] (by simp)
    refine ⟨L[k], n, hkm.1, hkm.2, ?_⟩
    have hcand : ((if L.isEmpty = true then #[none] else #[]) ++ (L ++ #[]).map some : Array (Option MapEntry)) = L.map some := by simp [hemp]
    simp only [Instr.next, Sem.run_bind, hg1, hg2, Result.andThen_ok, hall, Bool.false_eq_true, if_false, hL, hold, hnew]
    rw [hcand]
    simp only [Array.size_map, hck, Result.andThen_ok, Array.getElem?_map, Array.getElem?_eq_getElem hk, Option.map_some, Sem.run_bind, hset, Sem.run_pure]
theorem run_entry_map {e : MapEntry} (hit : w.heap[ri]? = some (.mapIter (some mb) ck (seen.push e.born) ck)) (hm : w.heap[mb]? = some (.map es ck)) (hn : (es.toList.map (·.born)).Nodup) (he : e ∈ es.toList) :
    (Instr.entry (.pointer (some ⟨ri, 0, none⟩))).run P w = .ok (.tuple #[e.key, e.val]) w := by
  have hg1 : (getObj ri).run P w = .ok (.mapIter (some mb) ck (seen.push e.born) ck) w := by simp only [getObj, Sem.run, hit]
  have hg2 : (getObj mb).run P w = .ok (.map es ck) w := by simp only [getObj, Sem.run, hm]
  have hf : es.find? (fun x => x.born == e.born) = some e := by
    rw [← Array.find?_toList]
    have : ∀ (l : List MapEntry), (l.map (·.born)).Nodup → e ∈ l → l.find? (fun x => x.born == e.born) = some e := by
      intro l
      induction l with
      | nil => intro _ h; cases h
      | cons a l ih =>
        intro hnd hm
        simp only [List.map_cons, List.nodup_cons] at hnd
        rcases List.mem_cons.1 hm with rfl | hm
        · simp
        · have hne : (a.born == e.born) = false := by
            rw [beq_eq_false_iff_ne]
            intro h
            exact hnd.1 (h ▸ List.mem_map.2 ⟨e, hm, rfl⟩)
          rw [List.find?_cons, hne]
          exact ih hnd.2 hm
    exact this _ hn he
  simp only [Instr.entry, Sem.run_bind, hg1, Result.andThen_ok, Array.back?_push, hg2, bne_self_eq_false, Bool.false_eq_true, if_false, hf, Sem.run_pure]
def AllSeen (es : Array MapEntry) (seen : Array Nat) : Prop := ∀ e ∈ es.toList, seen.contains e.born = true
structure Came (w w' : World) (ri mb ck : Nat) (es : Array MapEntry) (seen : Array Nat) (e : MapEntry) : Prop where
  mem : e ∈ es.toList
  unseen : seen.contains e.born = false
  it : iterSeen w' ri mb ck (seen.push e.born)
  map : w'.heap[mb]? = some (.map es ck)
  grown : w.grownBy w' (some ri)
  size : w'.heap.size = w.heap.size
theorem wpList_next_map {ops : Array Oper} {rest : List Oper} {o : Oper} {a : Act} {Q : Exit → Act → World → Prop} (hg : o.guard = none) (it : Operand) (hop : o.op = Op.next it false) (hev : a.eval it = .pointer (some ⟨ri, 0, none⟩))
    (hit : iterSeen w ri mb ck seen) (hm : w.heap[mb]? = some (.map es ck)) (hb : ∀ e ∈ es.toList, e.born < ck) (hn : (es.toList.map (·.born)).Nodup) (hne : ri ≠ mb)
    (hDone : AllSeen es seen → wpList P ops Q rest (a.put o.dst (.tuple #[.bool false])) w)
    (hMore : ∀ (e : MapEntry) (w' : World), Came w w' ri mb ck es seen e →
      (Instr.entry (.pointer (some ⟨ri, 0, none⟩))).run P w' = .ok (.tuple #[e.key, e.val]) w' → wpList P ops Q rest (a.put o.dst (.tuple #[.bool true, e.key, e.val])) w') : wpList P ops Q (o :: rest) a w := by
  refine wpList_plain hg fun K' hK' => ?_
  unfold Oper.wp
  rcases run_next_map (P := P) hit hm hb o.type with ⟨h1, h2⟩ | ⟨e, n, h1, h2, h3⟩
  · simp [execOp, hop, hev, h2, Result.andThen]
    exact hK' _ _ (hDone h1)
  · have hri : ri < w.heap.size := (Array.getElem?_eq_some_iff.1 hit).1
    have k1 : iterSeen { w with drawn := n, heap := w.heap.setIfInBounds ri (.mapIter (some mb) ck (seen.push e.born) ck) } ri mb ck (seen.push e.born) := by
      simp [iterSeen, hri]
    have k2 : ({ w with drawn := n, heap := w.heap.setIfInBounds ri (.mapIter (some mb) ck (seen.push e.born) ck) } : World).heap[mb]? = some (.map es ck) := by
      simp only
      rw [Array.getElem?_setIfInBounds_ne hne]
      exact hm
    simp [execOp, hop, hev, h3, Result.andThen]
    refine hK' _ _ (hMore e _ ⟨h1, h2, k1, k2, ?_, by simp⟩ (run_entry_map k1 k2 hn h1))
    refine ⟨rfl, rfl, rfl, by simp, fun j hj hr => ?_⟩
    simp only
    rw [Array.getElem?_setIfInBounds_ne]
    exact fun e => hr (by rw [e])
end
end Go.Proofs.YtolignkahfekbaaGreatDoor
