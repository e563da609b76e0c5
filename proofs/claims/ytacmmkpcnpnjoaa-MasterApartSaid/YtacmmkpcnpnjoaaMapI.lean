/- A map whose entries' stamps are apart: 'm[k]++' in a walk. -/
import Derived.Test.YtacmmkpcnpnjoaaMapW
import Derived.WideKeyEntry
namespace Go.Proofs.Ytacmmkpcnpnjoaa
open Go Go.RowKit
set_option linter.unusedVariables false
/-- A map, entry by entry; the stamps are apart. -/
def MapS (w : World) (b : Nat) (kvs : List (Value × Value)) : Prop := ∃ es ck, w.heap[b]? = some (.map es ck) ∧ es.toList.map (fun e => (e.key, e.val)) = kvs ∧ (es.toList.map (·.born)).Nodup ∧ ∀ e ∈ es.toList, e.born < ck
section
variable [Toks]
variable {P : Program} {w : World} {b : Nat} {kvs : List (Value × Value)} {t kt et : TypeId} {k : Value}
omit [Toks] in
theorem MapS.at (h : MapS w b kvs) : MapAt w b kvs := by
  obtain ⟨es, ck, h1, h2, _⟩ := h
  exact ⟨es, ck, h1, h2⟩
omit [Toks] in
theorem MapS.keep {w' : World} (h : MapS w b kvs) (he : w'.heap[b]? = w.heap[b]?) : MapS w' b kvs := by
  obtain ⟨es, ck, h1, h2⟩ := h
  exact ⟨es, ck, he.trans h1, h2⟩
omit [Toks] in
theorem MapS.made (w : World) : MapS (w.alloc (.map #[] 0)) w.heap.size [] := ⟨#[], 0, (MapKept.heap_alloc w _).1, rfl, by simp, by simp⟩
omit [Toks] in
theorem setset {w : World} {b : Nat} {o o' : Obj} : ({ w with heap := (w.heap.setIfInBounds b o).setIfInBounds b o' } : World) = { w with heap := w.heap.setIfInBounds b o' } := by simp
theorem MapS.incr_no (hm : MapS w b kvs) (ht : P.underlying t = some (.map kt et)) (hkv : Kv P kt kvs) (hk : keyFit P kt k = true) (hkk : beq1 k k = true) (hno : ∀ p ∈ kvs, beq1 k p.1 = false) {z : Value} (hz : zeroP P et = some z) (hzz : VR1 idR z z) :
    ∃ (st : Nat) (w1 : World), (Instr.mapEntry t (.map (some b)) k).run P w = .ok (.tuple #[z, .int .i64 st]) w1 ∧ (Instr.lookup t (.map (some b)) k false).run P w1 = .ok z w1 ∧
      ∀ v, ∃ w2, (Instr.entryStore t (.map (some b)) (.int .i64 st) v).run P w1 = .ok () w2 ∧ MapS w2 b (kvs ++ [(k, v)]) ∧ w.grownBy w2 (some b) := by
  obtain ⟨es, ck, hw, he, hn, hb⟩ := hm
  have hK := keyFit_ok hk
  obtain ⟨r', g1, _, g3⟩ := find_ok hK w (kv_rel hkv he) 0 (findE_no kvs 0 (fun p hp => (hkv p hp).1) hno)
  have hr' : r' = none := g3
  subst hr'
  have hlt := (Array.getElem?_eq_some_iff.1 hw).1
  have hn' : ((es.push ⟨k, z, ck⟩).toList.map (·.born)).Nodup := by
    simp only [Array.toList_push, List.map_append, List.map_cons, List.map_nil]
    refine List.nodup_append.2 ⟨hn, by simp, fun a ha c hc e1 => ?_⟩
    simp only [List.mem_singleton] at hc
    obtain ⟨x, hx, rfl⟩ := List.mem_map.1 ha
    have := hb x hx
    omega
  have h1 : ({ w with heap := w.heap.setIfInBounds b (.map (es.push ⟨k, z, ck⟩) (ck + 1)) } : World).heap[b]? = some (.map (es.push ⟨k, z, ck⟩) (ck + 1)) := getset hlt
  refine ⟨ck, { w with heap := w.heap.setIfInBounds b (.map (es.push ⟨k, z, ck⟩) (ck + 1)) }, ?_, ?_, fun v => ⟨{ w with heap := w.heap.setIfInBounds b (.map (es.push ⟨k, v, ck⟩) (ck + 1)) }, ?_, ⟨es.push ⟨k, v, ck⟩, ck + 1, getset hlt, by simp [he], by simpa using hn', ?_⟩, grown_setMap _⟩⟩
  · simp only [Instr.mapEntry, Sem.run_bind, run_underlying ht, Result.andThen_ok, run_getObj (P := P) hw (by intro _ _ _ e; cases e), hK.check, g1, Option.map_none, (zeroP_ok hz w).1, run_setObj (P := P) hw (by intro _ _ _ e; cases e), Sem.run_pure]
    rfl
  · have := (MapAt.look_yes (P := P) (kvs := kvs ++ [(k, z)]) (j := kvs.length) (v := z) ⟨_, _, h1, by simp [he]⟩ ht (fun p hp => by
      rcases List.mem_append.1 hp with hp | hp
      · exact hkv p hp
      · rw [List.mem_singleton] at hp
        subst hp
        exact ⟨hk, hzz⟩) (by simp) hkk (fun m p hm hp => by
      rw [List.getElem?_append_left hm] at hp
      exact hno p (List.mem_of_getElem? hp)) false)
    simpa using this
  · have hidx : (es.push ⟨k, z, ck⟩).findIdx? (fun e => ((e.born : Nat) : Int) == ((ck : Nat) : Int)) = some es.size := by
      rw [WideElems.findIdx_arr]
      exact WideElems.findIdx_born (l := (es.push ⟨k, z, ck⟩).toList) (j := es.size) (e0 := ⟨k, z, ck⟩) hn' (by simp)
    have hmod : (es.push ⟨k, z, ck⟩).modify es.size (fun e => { e with val := v }) = es.push ⟨k, v, ck⟩ := by
      apply Array.ext'
      rw [Array.toList_modify, Array.toList_push, Array.toList_push, ← Array.length_toList, WideElems.modify_last]
    have ha : (asInt (.int .i64 (ck : Int))).run P { w with heap := w.heap.setIfInBounds b (.map (es.push ⟨k, z, ck⟩) (ck + 1)) } = .ok (ck : Int) { w with heap := w.heap.setIfInBounds b (.map (es.push ⟨k, z, ck⟩) (ck + 1)) } := rfl
    simp only [Instr.entryStore, Sem.run_bind, Result.andThen_ok, run_getObj (P := P) h1 (by intro _ _ _ e; cases e), ha, hidx, hmod, run_setObj (P := P) h1 (by intro _ _ _ e; cases e), setset]
  · intro e he'
    simp only [Array.toList_push, List.mem_append, List.mem_singleton] at he'
    rcases he' with h | rfl
    · have := hb e h
      omega
    · exact Nat.lt_succ_self _
theorem MapS.incr_yes (hm : MapS w b kvs) (ht : P.underlying t = some (.map kt et)) (hkv : Kv P kt kvs) {j : Nat} {u : Value} (hj : kvs[j]? = some (k, u)) (hkk : beq1 k k = true) (hfst : ∀ (m : Nat) (p : Value × Value), m < j → kvs[m]? = some p → beq1 k p.1 = false) :
    ∃ (st : Nat) (w1 : World), (Instr.mapEntry t (.map (some b)) k).run P w = .ok (.tuple #[u, .int .i64 st]) w1 ∧ (Instr.lookup t (.map (some b)) k false).run P w1 = .ok u w1 ∧
      ∀ v, ∃ w2, (Instr.entryStore t (.map (some b)) (.int .i64 st) v).run P w1 = .ok () w2 ∧ MapS w2 b (kvs.set j (k, v)) ∧ w.grownBy w2 (some b) := by
  obtain ⟨es, ck, hw, he, hn, hb⟩ := hm
  have hK := keyFit_ok (hkv (k, u) (List.mem_of_getElem? hj)).1
  obtain ⟨r', g1, _, g3⟩ := find_ok hK w (kv_rel hkv he) 0 (findE_yes kvs 0 j (fun p hp => (hkv p hp).1) hj hkk hfst)
  obtain ⟨v', e, hr', _, _, he2, he1, he3, _⟩ := g3
  subst hr'
  rw [Nat.zero_add, Nat.sub_zero] at he2
  have hlt := (Array.getElem?_eq_some_iff.1 hw).1
  have hjl : j < es.size := by have := (List.getElem?_eq_some_iff.1 he2).1; simpa using this
  have hea : es[j]? = some e := by simpa using he2
  have he' : es[j] = e := by rw [Array.getElem?_eq_getElem hjl] at hea; exact Option.some.inj hea
  have hkey : (e.key, e.val) = (k, u) := by
    have h1 := congrArg (fun l => l[j]?) he
    simp only [List.getElem?_map, he2, Option.map_some, hj, Option.some.injEq] at h1
    exact h1
  have hv : v' = u := by rw [← he3]; exact congrArg Prod.snd hkey
  subst hv
  have set1 : ∀ (f : MapEntry → MapEntry), (es.modify j f).toList = es.toList.set j (f e) := by
    intro f
    apply List.ext_getElem?
    intro i
    rw [Array.getElem?_toList, Array.getElem?_modify, List.getElem?_set]
    by_cases hij : j = i
    · subst hij
      simp [hjl, he']
    · simp [hij]
  have set2 : ∀ (f : MapEntry → MapEntry), f e = e → es.modify j f = es := by
    intro f hf
    apply Array.ext'
    rw [set1, hf]
    exact WideElems.set_self _ _ _ he2
  have hsame : es.modify j (fun e => { e with key := k }) = es := set2 _ (by
    have : e.key = k := congrArg Prod.fst hkey
    cases e
    simp only at this
    subst this
    rfl)
  have h1 : ({ w with heap := w.heap.setIfInBounds b (.map es ck) } : World).heap[b]? = some (.map es ck) := getset hlt
  have hst := hK.stays (P := P) w
  refine ⟨e.born, { w with heap := w.heap.setIfInBounds b (.map es ck) }, ?_, ?_, fun v => ⟨{ w with heap := w.heap.setIfInBounds b (.map (es.modify j fun e => { e with val := v }) ck) }, ?_, ⟨es.modify j fun e => { e with val := v }, ck, getset hlt, ?_, ?_, ?_⟩, grown_setMap _⟩⟩
  · simp only [Instr.mapEntry, Sem.run_bind, run_underlying ht, Result.andThen_ok, run_getObj (P := P) hw (by intro _ _ _ e; cases e), hK.check, g1, Option.map_some, Nat.zero_add, Nat.sub_zero, hea, he1, Option.getD_some, hst, hsame, run_setObj (P := P) hw (by intro _ _ _ e; cases e), Sem.run_pure]
    rfl
  · have := (MapAt.look_yes (P := P) (kvs := kvs) (j := j) (v := v') ⟨_, _, h1, he⟩ ht hkv hj hkk hfst false)
    simpa using this
  · have hidx : es.findIdx? (fun x => ((x.born : Nat) : Int) == ((e.born : Nat) : Int)) = some j := by
      rw [WideElems.findIdx_arr]
      exact WideElems.findIdx_born (l := es.toList) (j := j) (e0 := e) hn he2
    have ha : (asInt (.int .i64 (e.born : Int))).run P { w with heap := w.heap.setIfInBounds b (.map es ck) } = .ok (e.born : Int) { w with heap := w.heap.setIfInBounds b (.map es ck) } := rfl
    simp only [Instr.entryStore, Sem.run_bind, Result.andThen_ok, run_getObj (P := P) h1 (by intro _ _ _ e; cases e), ha, hidx, run_setObj (P := P) h1 (by intro _ _ _ e; cases e), setset]
  · rw [set1, List.map_set, he]
    have : e.key = k := congrArg Prod.fst hkey
    rw [this]
  · rw [set1, List.map_set]
    have : (es.toList.map (·.born)).set j e.born = es.toList.map (·.born) := WideElems.set_self _ _ _ (by rw [List.getElem?_map, he2]; rfl)
    rw [this]
    exact hn
  · intro x hx
    rw [set1] at hx
    rcases List.mem_or_eq_of_mem_set hx with h | rfl
    · exact hb x h
    · exact hb e (List.mem_of_getElem? he2)
end
end Go.Proofs.Ytacmmkpcnpnjoaa
