/- Maps in memory, their entries in the order in which they came: for walks. -/
import Derived.Test.YtfbedlhigggggaaMaps
import Derived.Test.YtfbedlhigggggaaBase
namespace Go.Proofs.Ytfbedlhigggggaa
open Go Go.RowKit
set_option linter.unusedVariables false
/-- A map, entry by entry. -/
def MapAt (w : World) (b : Nat) (kvs : List (Value × Value)) : Prop := ∃ es ck, w.heap[b]? = some (.map es ck) ∧ es.toList.map (fun e => (e.key, e.val)) = kvs
def idR : Ren := fun i => some ⟨i, 0, 0⟩
/-- Keys that may be; elements that are plain. -/
def Kv [Toks] (P : Program) (kt : TypeId) (kvs : List (Value × Value)) : Prop := ∀ p ∈ kvs, keyFit P kt p.1 = true ∧ VR1 idR p.2 p.2
def tups (kvs : List (Value × Value)) : List Value := kvs.map fun p => .tuple #[p.1, p.2]
section
variable [Toks]
variable {P : Program} {w : World} {b : Nat} {kvs : List (Value × Value)} {t kt et : TypeId} {k : Value}
omit [Toks] in
theorem MapAt.lt (h : MapAt w b kvs) : b < w.heap.size := by
  obtain ⟨es, ck, h1, _⟩ := h
  exact (Array.getElem?_eq_some_iff.1 h1).1
omit [Toks] in
theorem MapAt.keep {w' : World} (h : MapAt w b kvs) (he : w'.heap[b]? = w.heap[b]?) : MapAt w' b kvs := by
  obtain ⟨es, ck, h1, h2⟩ := h
  exact ⟨es, ck, he.trans h1, h2⟩
omit [Toks] in
theorem MapAt.grown {w' : World} {row : Option Nat} (h : MapAt w b kvs) (hg : w.grownBy w' row) (hne : some b ≠ row) : MapAt w' b kvs := h.keep (hg.block b h.lt hne)
omit [Toks] in
theorem MapAt.drewN (h : MapAt w b kvs) (n : Nat) : MapAt (w.drewN n) b kvs := h
omit [Toks] in
theorem MapAt.made (w : World) : MapAt (w.alloc (.map #[] 0)) w.heap.size [] := ⟨#[], 0, (MapKept.heap_alloc w _).1, rfl⟩
theorem kv_rel (hk : Kv P kt kvs) {es : List MapEntry} (he : es.map (fun e => (e.key, e.val)) = kvs) : LR (EntR idR) (tups kvs) es := by
  induction es generalizing kvs with
  | nil => subst he; exact .nil
  | cons e es ih =>
    subst he
    refine .cons ⟨e.key, e.val, rfl, VR1.flat (keyFit_ok (hk (e.key, e.val) (by simp)).1).flat, (hk (e.key, e.val) (by simp)).2⟩ (ih (fun p hp => hk p ?_) rfl)
    simp only [List.map_cons, List.mem_cons]
    exact .inr hp
omit [Toks] in
theorem findE_no {P : Program} {kt : TypeId} {k : Value} : ∀ (kvs : List (Value × Value)) (i : Nat), (∀ p ∈ kvs, keyFit P kt p.1 = true) → (∀ p ∈ kvs, beq1 k p.1 = false) → findE P kt k (tups kvs) i = some none
  | [], i, _, _ => rfl
  | p :: r, i, h1, h2 => by
    show (if keyFit P kt p.1 = true then if beq1 k p.1 = true then _ else findE P kt k (tups r) (i + 1) else none) = _
    rw [if_pos (h1 p (by simp)), h2 p (by simp), if_neg (by decide)]
    exact findE_no r (i + 1) (fun q hq => h1 q (by simp [hq])) (fun q hq => h2 q (by simp [hq]))
omit [Toks] in
theorem findE_yes {P : Program} {kt : TypeId} {k v : Value} : ∀ (kvs : List (Value × Value)) (i j : Nat), (∀ p ∈ kvs, keyFit P kt p.1 = true) → kvs[j]? = some (k, v) → beq1 k k = true → (∀ (m : Nat) (p : Value × Value), m < j → kvs[m]? = some p → beq1 k p.1 = false) → findE P kt k (tups kvs) i = some (some (i + j, v))
  | [], i, j, _, h, _, _ => by simp at h
  | p :: r, i, 0, h1, h2, h3, _ => by
    simp only [List.getElem?_cons_zero, Option.some.injEq] at h2
    subst h2
    show (if keyFit P kt k = true then if beq1 k k = true then some (some (i, v)) else findE P kt k (tups r) (i + 1) else none) = _
    rw [if_pos (h1 (k, v) (by simp)), if_pos h3]
    rfl
  | p :: r, i, j + 1, h1, h2, h3, h4 => by
    show (if keyFit P kt p.1 = true then if beq1 k p.1 = true then _ else findE P kt k (tups r) (i + 1) else none) = _
    rw [if_pos (h1 p (by simp)), h4 0 p (by omega) rfl, if_neg (by decide), findE_yes r (i + 1) j (fun q hq => h1 q (by simp [hq])) (by simpa using h2) h3 (fun m q hm hq => h4 (m + 1) q (by omega) (by simpa using hq))]
    congr 3
    omega
theorem MapAt.look_no (hm : MapAt w b kvs) (ht : P.underlying t = some (.map kt et)) (hkv : Kv P kt kvs) (hk : keyFit P kt k = true) (hno : ∀ p ∈ kvs, beq1 k p.1 = false) {z : Value} (hz : zeroP P et = some z) (ok : Bool) :
    (Instr.lookup t (.map (some b)) k ok).run P w = .ok (if ok then .tuple #[z, .bool false] else z) w := by
  obtain ⟨es, ck, hw, he⟩ := hm
  have hK := keyFit_ok hk
  obtain ⟨r', g1, _, g3⟩ := find_ok hK w (kv_rel hkv he) 0 (findE_no kvs 0 (fun p hp => (hkv p hp).1) hno)
  have hr' : r' = none := g3
  subst hr'
  simp only [Instr.lookup, Sem.run_bind, run_underlying ht, Result.andThen_ok, run_getObj (P := P) hw (by intro _ _ _ e; cases e), Sem.run_pure, hK.check, g1, Option.map_none, (zeroP_ok hz w).1]
theorem MapAt.look_yes (hm : MapAt w b kvs) (ht : P.underlying t = some (.map kt et)) (hkv : Kv P kt kvs) {j : Nat} {v : Value} (hj : kvs[j]? = some (k, v)) (hb : beq1 k k = true) (hfst : ∀ (m : Nat) (p : Value × Value), m < j → kvs[m]? = some p → beq1 k p.1 = false) (ok : Bool) :
    (Instr.lookup t (.map (some b)) k ok).run P w = .ok (if ok then .tuple #[v, .bool true] else v) w := by
  obtain ⟨es, ck, hw, he⟩ := hm
  have hK := keyFit_ok (hkv (k, v) (List.mem_of_getElem? hj)).1
  obtain ⟨r', g1, _, g3⟩ := find_ok hK w (kv_rel hkv he) 0 (findE_yes kvs 0 j (fun p hp => (hkv p hp).1) hj hb hfst)
  obtain ⟨v', e, hr', _, _, he2, _, he3, _⟩ := g3
  have hv : v' = v := by
    rw [Nat.zero_add, Nat.sub_zero] at he2
    have h1 := congrArg (fun l => l[j]?) he
    simp only [List.getElem?_map, he2, Option.map_some, hj, Option.some.injEq, Prod.mk.injEq] at h1
    rw [← he3, h1.2]
  subst hr' hv
  simp only [Instr.lookup, Sem.run_bind, run_underlying ht, Result.andThen_ok, run_getObj (P := P) hw (by intro _ _ _ e; cases e), Sem.run_pure, hK.check, g1, Option.map_some]
omit [Toks] in
theorem grown_setMap {w : World} {b : Nat} (o : Obj) : w.grownBy { w with heap := w.heap.setIfInBounds b o } (some b) := ⟨rfl, rfl, rfl, by simp, fun k hk hne => by
  have : b ≠ k := fun e => hne (by rw [e])
  simp [Array.getElem?_setIfInBounds_ne this]⟩
theorem MapAt.put_no (hm : MapAt w b kvs) (ht : P.underlying t = some (.map kt et)) (hkv : Kv P kt kvs) (hk : keyFit P kt k = true) (hno : ∀ p ∈ kvs, beq1 k p.1 = false) (v : Value) :
    ∃ w', (Instr.mapUpdate t (.map (some b)) k v).run P w = .ok () w' ∧ MapAt w' b (kvs ++ [(k, v)]) ∧ w.grownBy w' (some b) := by
  obtain ⟨es, ck, hw, he⟩ := hm
  have hK := keyFit_ok hk
  obtain ⟨r', g1, _, g3⟩ := find_ok hK w (kv_rel hkv he) 0 (findE_no kvs 0 (fun p hp => (hkv p hp).1) hno)
  have hr' : r' = none := g3
  subst hr'
  have hlt := (Array.getElem?_eq_some_iff.1 hw).1
  refine ⟨{ w with heap := w.heap.setIfInBounds b (.map (es.push ⟨k, v, ck⟩) (ck + 1)) }, ?_, ⟨es.push ⟨k, v, ck⟩, ck + 1, getset hlt, by simp [he]⟩, grown_setMap _⟩
  simp only [Instr.mapUpdate, Sem.run_bind, run_underlying ht, Result.andThen_ok, run_getObj (P := P) hw (by intro _ _ _ e; cases e), hK.check, g1, Option.map_none]
  exact run_setObj hw (by intro _ _ _ e; cases e)
theorem MapAt.put_yes (hm : MapAt w b kvs) (ht : P.underlying t = some (.map kt et)) (hkv : Kv P kt kvs) {j : Nat} {u : Value} (hj : kvs[j]? = some (k, u)) (hb : beq1 k k = true) (hfst : ∀ (m : Nat) (p : Value × Value), m < j → kvs[m]? = some p → beq1 k p.1 = false) (v : Value) :
    ∃ w', (Instr.mapUpdate t (.map (some b)) k v).run P w = .ok () w' ∧ MapAt w' b (kvs.set j (k, v)) ∧ w.grownBy w' (some b) := by
  obtain ⟨es, ck, hw, he⟩ := hm
  have hK := keyFit_ok (hkv (k, u) (List.mem_of_getElem? hj)).1
  obtain ⟨r', g1, _, g3⟩ := find_ok hK w (kv_rel hkv he) 0 (findE_yes kvs 0 j (fun p hp => (hkv p hp).1) hj hb hfst)
  obtain ⟨v', e, hr', _, _, he2, he1, he3, _⟩ := g3
  subst hr'
  rw [Nat.zero_add, Nat.sub_zero] at he2
  have hlt := (Array.getElem?_eq_some_iff.1 hw).1
  have hjl : j < es.size := by have := (List.getElem?_eq_some_iff.1 he2).1; simpa using this
  have hea : es[j]? = some e := by simpa using he2
  have hmod : (es.modify j fun e => { e with key := k, val := v }).toList = es.toList.set j { e with key := k, val := v } := by
    apply List.ext_getElem?
    intro i
    rw [Array.getElem?_toList, Array.getElem?_modify, List.getElem?_set]
    by_cases hij : j = i
    · subst hij
      have he' : es[j] = e := by rw [Array.getElem?_eq_getElem hjl] at hea; exact Option.some.inj hea
      simp [hjl, he']
    · simp [hij]
  refine ⟨{ w with heap := w.heap.setIfInBounds b (.map (es.modify j fun e => { e with key := k, val := v }) ck) }, ?_, ⟨es.modify j fun e => { e with key := k, val := v }, ck, getset hlt, by rw [hmod, List.map_set, he]⟩, grown_setMap _⟩
  have hst := hK.stays (P := P) w
  simp only [Instr.mapUpdate, Sem.run_bind, run_underlying ht, Result.andThen_ok, run_getObj (P := P) hw (by intro _ _ _ e; cases e), hK.check, g1, Option.map_some, Nat.zero_add, Nat.sub_zero, hea, he1, Option.getD_some, hst]
  exact run_setObj hw (by intro _ _ _ e; cases e)
theorem MapAt.del_yes (hm : MapAt w b kvs) (ht : P.underlying t = some (.map kt et)) (hkv : Kv P kt kvs) {j : Nat} {u : Value} (hj : kvs[j]? = some (k, u)) (hb : beq1 k k = true) (hfst : ∀ (m : Nat) (p : Value × Value), m < j → kvs[m]? = some p → beq1 k p.1 = false) (ty : TypeId) :
    ∃ w', (Builtin.delete_ #[t, kt] ty #[.map (some b), k]).run P w = .ok (.tuple #[]) w' ∧ MapAt w' b (kvs.eraseIdx j) ∧ w.grownBy w' (some b) := by
  obtain ⟨es, ck, hw, he⟩ := hm
  have hK := keyFit_ok (hkv (k, u) (List.mem_of_getElem? hj)).1
  obtain ⟨r', g1, _, g3⟩ := find_ok hK w (kv_rel hkv he) 0 (findE_yes kvs 0 j (fun p hp => (hkv p hp).1) hj hb hfst)
  obtain ⟨v', e, hr', _, _, he2, he1, he3, _⟩ := g3
  subst hr'
  rw [Nat.zero_add, Nat.sub_zero] at he2
  have hlt := (Array.getElem?_eq_some_iff.1 hw).1
  have hjl : j < es.size := by have := (List.getElem?_eq_some_iff.1 he2).1; simpa using this
  have her : (es.eraseIdxIfInBounds j).toList = es.toList.eraseIdx j := by simp [Array.eraseIdxIfInBounds, hjl]
  refine ⟨{ w with heap := w.heap.setIfInBounds b (.map (es.eraseIdxIfInBounds j) ck) }, ?_, ⟨es.eraseIdxIfInBounds j, ck, getset hlt, by rw [her, List.eraseIdx_eq_take_drop_succ, List.map_append, List.map_take, List.map_drop, he, ← List.eraseIdx_eq_take_drop_succ]⟩, grown_setMap _⟩
  have e0 : (#[Value.map (some b), k] : Array Value)[0]? = some (.map (some b)) := rfl
  have e1 : (#[Value.map (some b), k] : Array Value)[1]? = some k := rfl
  have ht0 : (#[t, kt] : Array TypeId)[0]? = some t := rfl
  simp only [Builtin.delete_, ht0, e0, e1, Sem.run_bind, run_underlying ht, Result.andThen_ok, run_getObj (P := P) hw (by intro _ _ _ e; cases e), hK.check, g1, Option.map_some, Nat.zero_add, Nat.sub_zero, run_setObj (P := P) hw (by intro _ _ _ e; cases e), Sem.run_pure]
end
end Go.Proofs.Ytfbedlhigggggaa
