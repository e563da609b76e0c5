/- Steps in memory, abstract and real side by side: a new block, cells stored, cells read. -/
import Derived.Test.YtfbedlhigggggaaRel
import Derived.Laws.Cells
import Derived.Laws.Entries
import Derived.LaidEql
namespace Go.Proofs.Ytfbedlhigggggaa
open Go Go.RowKit
variable [Toks]

structure Put (w w' : World) (b : Nat) (cs : Array Value) (e : TypeId) (fz : Nat × Nat) : Prop where
  here : w'.heap[b]? = some (.cells cs e fz)
  other : ∀ k, k ≠ b → w'.heap[k]? = w.heap[k]?
  size : w'.heap.size = w.heap.size
  os : w'.os = w.os
  tape : w'.tape = w.tape
  output : w'.output = w.output
omit [Toks] in
theorem one_iff {v : Value} (h : one v = true) : v.oneCell' = true := by cases v <;> simp_all [one, Value.oneCell']
omit [Toks] in
theorem add_at (b o i : Nat) : (⟨b, o, none⟩ : Addr).add i = ⟨b, o + i, none⟩ := by unfold Addr.add; split <;> simp_all
omit [Toks] in
theorem add_none (a : Addr) (h : a.spot = none) (i : Nat) : a.add i = ⟨a.block, a.off + i, none⟩ := by
  cases a; simp only at h; subst h; exact add_at _ _ _
omit [Toks] in
theorem setCell_put {w : World} {b k : Nat} {cs : Array Value} {e : TypeId} {fz : Nat × Nat} (h : w.heap[b]? = some (.cells cs e fz)) (v : Value) : Put w (w.setCell ⟨b, k, none⟩ v) b (cs.setIfInBounds k v) e fz := by
  refine ⟨?_, fun j hj => Below.heap_setCell w _ _ j hj, by simp [World.setCell], rfl, rfl, rfl⟩
  simp [World.setCell, Array.getElem?_modify, h]
omit [Toks] in
theorem store_run {P : Program} {b off : Nat} {e : TypeId} {fz : Nat × Nat} : ∀ (vs : List Value) (i : Nat) (cs : Array Value) (w : World), w.heap[b]? = some (.cells cs e fz) → off + i + vs.length ≤ cs.size →
    (∀ k, k < cs.size → (decide (fz.1 ≤ k) && decide (k < fz.2)) = false) → vs.all one = true → ∃ w', (storeCells ⟨b, off, none⟩ vs i).run P w = .ok () w' ∧ Put w w' b (splice cs.toList (off + i) vs).toArray e fz
  | [], i, cs, w, h, _, _, _ => ⟨w, rfl, by simpa [splice] using h, fun _ _ => rfl, rfl, rfl, rfl, rfl⟩
  | v :: vs, i, cs, w, h, hl, hf, h1 => by
    simp only [List.all_cons, Bool.and_eq_true] at h1
    simp only [List.length_cons] at hl
    have hc : w.cell? ⟨b, off + i, none⟩ = some cs[off + i] := by simp [World.cell?, h, show off + i < cs.size by omega]
    have hfr : w.frozen? ⟨b, off + i, none⟩ = false := by
      have := hf (off + i) (by omega)
      simp only [World.frozen?, h]
      exact this
    have hst : (store ((⟨b, off, none⟩ : Addr).add i) v).run P w = .ok () (w.setCell ⟨b, off + i, none⟩ v) := by
      rw [add_at, run_store P w _ v _ (one_iff h1.1), hc]
      simp [hfr]
    have hp := setCell_put (k := off + i) h v
    obtain ⟨w', hr, hw⟩ := store_run (P := P) (off := off) vs (i + 1) _ (w.setCell ⟨b, off + i, none⟩ v) hp.here (by simp; omega) (fun k hk => hf k (by simpa using hk)) h1.2
    refine ⟨w', ?_, ?_, fun k hk => (hw.other k hk).trans (hp.other k hk), hw.size.trans hp.size, hw.os.trans hp.os, hw.tape.trans hp.tape, hw.output.trans hp.output⟩
    · simp only [storeCells, Sem.run_bind, hst, Result.andThen_ok, hr]
    · have := hw.here
      simpa [splice, Array.toList_setIfInBounds, Nat.add_assoc] using this
omit [Toks] in
theorem splice_length : ∀ (vs l : List Value) (off : Nat), (splice l off vs).length = l.length
  | [], _, _ => rfl
  | v :: vs, l, off => by rw [splice, splice_length]; simp
omit [Toks] in
theorem splice_LR {R : Value → Value → Prop} : ∀ {vs vs' : List Value}, LR R vs vs' → ∀ {l l' : List Value} (off : Nat), (∀ (k : Nat) (u : Value), l[k]? = some u → ∃ u', l'[k]? = some u' ∧ R u u') → l.length ≤ l'.length →
    ∀ (k : Nat) (u : Value), (splice l off vs)[k]? = some u → ∃ u', (splice l' off vs')[k]? = some u' ∧ R u u'
  | _, _, .nil, _, _, _, h, _ => h
  | _, _, .cons (a := a) (b := b) h1 h2, l, l', off, h, hl => by
    refine splice_LR h2 (l := l.set off a) (l' := l'.set off b) (off + 1) (fun k u hk => ?_) (by simpa using hl)
    rw [List.getElem?_set] at hk ⊢
    split at hk
    · rename_i e
      subst e
      split at hk
      · rename_i hlt
        injection hk with hk
        subst hk
        exact ⟨b, by rw [if_pos rfl, if_pos (by omega)], h1⟩
      · cases hk
    · rename_i hne
      rw [if_neg hne]
      exact h k u hk

section
variable {M : Nat} {ρ : Ren} {h : AHeap} {w w' : World}
theorem Sim.heap_eq (s : Sim M ρ h w) (e : w'.heap = w.heap) : Sim M ρ h w' := by
  refine ⟨?_, s.inj, ?_, s.fresh, s.le⟩
  · intro i o l h1 h2
    exact (s.ok i o l h1 h2).move (fun _ _ h => h) (by rw [e])
  · intro i l h1
    rw [e]
    exact s.dom i l h1
/-- One block turned. -/
theorem Sim.turn (s : Sim M ρ h w) {i : Nat} {o : AObj} {l : Loc} (hi : h.get i = some o) (hk : o.kind ≠ 2) (hl : ρ i = some l) (o2 : AObj) (hother : ∀ k, k ≠ l.b → w'.heap[k]? = w.heap[k]?) (hsize : w'.heap.size = w.heap.size)
    (hnew : Held ρ o2 l w') : Sim M ρ (h.put i (some o2)) w' := by
  refine ⟨fun j o' l' hj hl' => ?_, fun j1 j2 o1 o3 l1 l2 g1 g2 g3 g4 g5 => ?_, fun j l' hj => ?_, fun j hj => ?_, s.le⟩
  · rw [AHeap.get_put hi] at hj
    split at hj
    · rename_i e
      subst e
      injection hj with hj
      subst hj
      rw [hl] at hl'
      cases hl'
      exact hnew
    · rename_i e
      exact (s.ok j o' l' hj hl').move (fun _ _ h => h) (hother _ fun e2 => (s.inj j i o' o l' l hj hi hl' hl e2).elim e fun x => hk x.2)
  · have f : ∀ {j : Nat} {o' : AObj}, (h.put i (some o2)).get j = some o' → ∃ o'', h.get j = some o'' ∧ (o''.kind = 2 → o'' = o') := by
      intro j o' hj
      rw [AHeap.get_put hi] at hj
      split at hj
      · rename_i e; subst e; exact ⟨o, hi, fun e => absurd e hk⟩
      · exact ⟨o', hj, fun _ => rfl⟩
    obtain ⟨o1', g1', k1⟩ := f g1
    obtain ⟨o2', g2', k2⟩ := f g2
    exact (s.inj j1 j2 o1' o2' l1 l2 g1' g2' g3 g4 g5).imp_right fun ⟨x, y⟩ => ⟨k1 x ▸ x, k2 y ▸ y⟩
  · have := s.dom j l' hj
    rw [hsize]
    exact this
  · rw [AHeap.get_put hi]
    split
    · rename_i e; subst e; rw [s.fresh _ hj] at hi; cases hi
    · exact s.fresh j hj
/-- One block's cells turned. -/
theorem Sim.put (s : Sim M ρ h w) {i : Nat} {o : AObj} {l : Loc} {cs : Array Value} {fz : Nat × Nat} (hi : h.get i = some o) (hk : o.kind < 3) (hk2 : o.kind ≠ 2) (hl : ρ i = some l) (cells : List Value) (hp : Put w w' l.b cs o.elem fz)
    (hold : ∃ cs0 : Array Value, w.heap[l.b]? = some (.cells cs0 o.elem fz) ∧ cs0.size = cs.size)
    (hrel : ∀ (k : Nat) (u : Value), cells[k]? = some u → ∃ u', cs[l.o + k]? = some u' ∧ VR0 ρ u u') : Sim M ρ (h.put i (some { o with cells := cells })) w' := by
  obtain ⟨cs0, h0, hsz⟩ := hold
  refine s.turn hi hk2 hl _ hp.other hp.size ⟨fun _ => ?_, fun e => absurd hk (by simp only at e; omega), fun e => absurd hk (by simp only at e; omega)⟩
  obtain ⟨cs1, fz1, a1, _, a3, a4, a5⟩ := (s.ok _ o l hi hl).cells hk
  rw [h0] at a1
  injection a1 with a1
  injection a1 with a1 _ a1'
  subst a1 a1'
  exact ⟨cs, fz, hp.here, hrel, fun x => by rw [← hsz]; exact a3 x, a4, fun x => by rw [← hsz]; exact a5 x⟩
theorem Ext.turn (s : Sim M ρ h w) {i : Nat} {o : AObj} {l : Loc} (hi : h.get i = some o) (hk : o.kind ≠ 2) (hl : ρ i = some l) (o' : Option AObj) (hk' : ∀ x, o' = some x → x.kind ≠ 2) (hother : ∀ k, k ≠ l.b → w'.heap[k]? = w.heap[k]?) (hsize : w'.heap.size = w.heap.size) (ho : w'.os = w.os) (ht : w'.tape = w.tape) (hu : w'.output = w.output) : Ext ρ ρ h (h.put i o') w w' := by
  refine ⟨Ren.le_refl _, (fun _ _ h1 h2 => by rw [h1] at h2; cases h2), fun j oj _ hj => ?_, fun j _ hj => ?_, Nat.le_refl _, by rw [hsize]; exact Nat.le_refl _, ho, ht, hu, fun b _ hn => hother b fun e => hn i l o hl hi hk e.symm, fun j oj hj hk2 => ?_, fun j oj _ hj _ hk2 => ?_⟩
  · rw [AHeap.get_put hi] at hj
    split at hj
    · rename_i e; subst e; exact ⟨o, hi⟩
    · exact ⟨oj, hj⟩
  · rw [AHeap.get_put hi, if_neg (fun e => by subst e; rw [hl] at hj; cases hj)]
  · have hne : j ≠ i := fun e => by subst e; rw [hi] at hj; cases hj; exact hk hk2
    exact ⟨by rw [AHeap.get_put hi, if_neg hne]; exact hj, fun l' hl' => hother _ fun e => (s.inj j i oj o l' l hj hi hl' hl e).elim hne fun x => hk x.2⟩
  · rw [AHeap.get_put hi] at hj
    split at hj
    · exact absurd hk2 (hk' _ hj)
    · exact hj
theorem Ext.put (s : Sim M ρ h w) {i : Nat} {o : AObj} {l : Loc} {cs : Array Value} {fz : Nat × Nat} {e : TypeId} (hi : h.get i = some o) (hk : o.kind ≠ 2) (hl : ρ i = some l) (o' : Option AObj) (hk' : ∀ x, o' = some x → x.kind ≠ 2) (hp : Put w w' l.b cs e fz) : Ext ρ ρ h (h.put i o') w w' :=
  Ext.turn s hi hk hl o' hk' hp.other hp.size hp.os hp.tape hp.output

/-- The names, with one more. -/
def Ren.add (ρ : Ren) (n : Nat) (l : Loc) : Ren := fun i => if i = n then some l else ρ i
omit [Toks] in
theorem Ren.add_new (ρ : Ren) (n : Nat) (l : Loc) : ρ.add n l n = some l := by simp [Ren.add]
theorem Sim.none_at (s : Sim M ρ h w) (hM : h.n < M) : ρ h.n = none := by
  cases e : ρ h.n with
  | none => rfl
  | some l => have := (s.dom _ _ e).1; omega
theorem Sim.le_add (s : Sim M ρ h w) (hM : h.n < M) (l : Loc) : ρ.le (ρ.add h.n l) := by
  intro i l' hi
  have := (s.dom _ _ hi).1
  simp only [Ren.add]
  rw [if_neg (by omega)]
  exact hi
/-- A new block. (The world's count of draws may have turned.) -/
theorem Sim.pushObj (s : Sim M ρ h w) (hM : h.n < M) {ob : Obj} {cap : Nat} (o : AObj)
    (hw : w'.heap = w.heap.push ob) (hnew : Held (ρ.add h.n ⟨w.heap.size, cap, 0⟩) o ⟨w.heap.size, cap, 0⟩ w') : Sim M (ρ.add h.n ⟨w.heap.size, cap, 0⟩) (h.push o) w' := by
  have hle := s.le_add hM ⟨w.heap.size, cap, 0⟩
  refine ⟨fun j o' l' hj hl' => ?_, fun j1 j2 o1 o2 l1 l2 g1 g2 g3 g4 g5 => ?_, fun j l' hj => ?_, fun j hj => ?_, hM⟩
  · rw [AHeap.get_push] at hj
    split at hj
    · rename_i e
      subst e
      injection hj with hj
      subst hj
      rw [Ren.add_new] at hl'
      cases hl'
      exact hnew
    · rename_i e
      have hl2 : ρ j = some l' := by simpa [Ren.add, e] using hl'
      have := (s.dom _ _ hl2).2
      exact (s.ok j o' l' hj hl2).move hle (by rw [hw, Array.getElem?_push, if_neg (by omega)])
  · rw [AHeap.get_push] at g1 g2
    by_cases e1 : j1 = h.n <;> by_cases e2 : j2 = h.n
    · exact .inl (by rw [e1, e2])
    · exfalso
      subst e1
      rw [Ren.add_new] at g3
      cases g3
      have : ρ j2 = some l2 := by simpa [Ren.add, e2] using g4
      have := (s.dom _ _ this).2
      simp only at g5
      omega
    · exfalso
      subst e2
      rw [Ren.add_new] at g4
      cases g4
      have : ρ j1 = some l1 := by simpa [Ren.add, e1] using g3
      have := (s.dom _ _ this).2
      simp only at g5
      omega
    · rw [if_neg e1] at g1
      rw [if_neg e2] at g2
      exact s.inj j1 j2 o1 o2 l1 l2 g1 g2 (by simpa [Ren.add, e1] using g3) (by simpa [Ren.add, e2] using g4) g5
  · simp only [AHeap.push]
    rw [hw, Array.size_push]
    by_cases e : j = h.n
    · subst e
      rw [Ren.add_new] at hj
      cases hj
      exact ⟨.inl (by omega), Nat.lt_succ_self _⟩
    · have := s.dom j l' (by simpa [Ren.add, e] using hj)
      omega
  · simp only [AHeap.push] at hj
    rw [AHeap.get_push, if_neg (by omega)]
    exact s.fresh j (by omega)
theorem Sim.push (s : Sim M ρ h w) (hM : h.n < M) {cs : Array Value} {e : TypeId} {fz : Nat × Nat} {cap : Nat} (o : AObj) (he : o.elem = e)
    (hw : w'.heap = w.heap.push (.cells cs e fz)) (hk3 : o.kind < 3) (hsz : cs.size = o.es * cap) (h0 : o.kind = 0 → fz = (0, 0)) (hf : ∀ k, k < cs.size → (decide (fz.1 ≤ k) && decide (k < fz.2)) = false)
    (hrel : ∀ (k : Nat) (u : Value), o.cells[k]? = some u → ∃ u', cs[k]? = some u' ∧ VR0 ρ u u') : Sim M (ρ.add h.n ⟨w.heap.size, cap, 0⟩) (h.push o) w' := by
  subst he
  refine s.pushObj hM o hw ⟨fun _ => ?_, fun e => absurd hk3 (by omega), fun e => absurd hk3 (by omega)⟩
  exact ⟨cs, fz, by rw [hw]; simp, fun k u hu => by obtain ⟨u', a, b⟩ := hrel k u hu; exact ⟨u', by simpa using a, b.mono (s.le_add hM _)⟩, fun _ => hf, h0, fun _ => ⟨hsz, rfl⟩⟩
theorem Ext.push (s : Sim M ρ h w) (hM : h.n < M) {ob : Obj} {cap : Nat} (o : AObj) (hk : o.kind ≠ 2) (hw : w'.heap = w.heap.push ob) (ho : w'.os = w.os) (ht : w'.tape = w.tape) (hu : w'.output = w.output) : Ext ρ (ρ.add h.n ⟨w.heap.size, cap, 0⟩) h (h.push o) w w' := by
  refine ⟨s.le_add hM _, fun i l h1 h2 => ?_, fun j oj hlt hj => ?_, fun j hlt hj => ?_, Nat.le_succ _, by rw [hw]; simp, ho, ht, hu, fun b hb _ => by rw [hw, Array.getElem?_push, if_neg (by omega)], fun j oj hj _ => ⟨?_, fun l' hl' => ?_⟩, fun j oj _ hj _ hk2 => ?_⟩
  · by_cases e : i = h.n
    · subst e
      rw [Ren.add_new] at h1
      cases h1
      exact ⟨Nat.le_refl _, Nat.lt_succ_self _, .inl (Nat.le_refl _)⟩
    · simp [Ren.add, e, h2] at h1
  · rw [AHeap.get_push, if_neg (by omega)] at hj; exact ⟨oj, hj⟩
  · rw [AHeap.get_push, if_neg (by omega)]
  · rw [AHeap.get_push]
    split
    · rename_i e; subst e; rw [s.fresh _ (Nat.le_refl _)] at hj; cases hj
    · exact hj
  · have := (s.dom _ _ hl').2
    rw [hw, Array.getElem?_push, if_neg (by omega)]
  · rw [AHeap.get_push] at hj
    split at hj
    · cases hj; exact absurd hk2 hk
    · exact hj
/-- Cells read. -/
theorem Sim.cells (s : Sim M ρ h w) {P : Program} {i : Nat} {o : AObj} {l : Loc} (hi : h.cel i = some o) (hl : ρ i = some l) {off n : Nat} {cs : List Value} (ht : takeN o.cells off n = some cs) (o' : Nat) (ho : 0 < n → o' = l.o + off) :
    ∃ cs', (loadCells ⟨l.b, o', none⟩ n).run P w = .ok cs' w ∧ LR (VR0 ρ) cs cs'.toList := by
  obtain ⟨hi, hk3⟩ := AHeap.cel_get hi
  obtain ⟨cc, fz, h1, h2, _⟩ := (s.ok i o l hi hl).cells hk3
  unfold takeN at ht
  by_cases hn : n = 0
  · subst hn
    simp only [if_true, Option.some.injEq] at ht
    subst ht
    exact ⟨#[], rfl, .nil⟩
  · obtain rfl := ho (by omega)
    rw [if_neg hn] at ht
    split at ht
    · rename_i hle
      injection ht with ht
      subst ht
      refine ⟨((cc.toList.drop (l.o + off)).take n).toArray, ?_, ?_⟩
      · have hlen : ∀ k, k < o.cells.length → l.o + k < cc.size := by
          intro k hk
          obtain ⟨u', hu, _⟩ := h2 k _ (List.getElem?_eq_getElem hk)
          exact (Array.getElem?_eq_some_iff.1 hu).1
        have hcc : l.o + off + n ≤ cc.size := by have := hlen (off + n - 1) (by omega); omega
        have e : ((cc.toList.drop (l.o + off)).take n).length = n := by simp; omega
        have := run_loadCells_list (P := P) w ⟨l.b, l.o + off, none⟩ ((cc.toList.drop (l.o + off)).take n) (fun j v hv => by
          rw [add_at]
          rw [List.getElem?_take] at hv
          split at hv
          · rw [List.getElem?_drop] at hv
            simpa [World.cell?, h1] using hv
          · cases hv)
        rw [e] at this
        exact this
      · refine LR.of_get ?_ (fun k u hu => ?_)
        · have hlen : ∀ k, k < o.cells.length → l.o + k < cc.size := by
            intro k hk
            obtain ⟨u', hu, _⟩ := h2 k _ (List.getElem?_eq_getElem hk)
            exact (Array.getElem?_eq_some_iff.1 hu).1
          have hcc : l.o + off + n ≤ cc.size := by have := hlen (off + n - 1) (by omega); omega
          simp; omega
        · rw [List.getElem?_take] at hu
          split at hu
          · rename_i hk
            rw [List.getElem?_drop] at hu
            obtain ⟨u', a, b⟩ := h2 _ u hu
            refine ⟨u', ?_, b⟩
            rw [List.getElem?_take, if_pos hk, List.getElem?_drop, Nat.add_assoc]
            simpa using a
          · cases hu
    · cases ht
end
section
variable {M : Nat} {ρ : Ren} {h : AHeap} {w w' : World}
/-- A new object whose block the call has made. -/
theorem Sim.pushAt (s : Sim M ρ h w) (hM : h.n < M) (o : AObj) {g cap : Nat} (hge : w.heap.size ≤ g) (hlt : g < w'.heap.size) (hold : ∀ k, k < w.heap.size → w'.heap[k]? = w.heap[k]?) (_hsz : w.heap.size ≤ w'.heap.size)
    (hnew : Held (ρ.add h.n ⟨g, cap, 0⟩) o ⟨g, cap, 0⟩ w') : Sim M (ρ.add h.n ⟨g, cap, 0⟩) (h.push o) w' := by
  have hle := s.le_add hM ⟨g, cap, 0⟩
  refine ⟨fun j o' l' hj hl' => ?_, fun j1 j2 o1 o2 l1 l2 g1 g2 g3 g4 g5 => ?_, fun j l' hj => ?_, fun j hj => ?_, hM⟩
  · rw [AHeap.get_push] at hj
    split at hj
    · rename_i e
      subst e
      injection hj with hj
      subst hj
      rw [Ren.add_new] at hl'
      cases hl'
      exact hnew
    · rename_i e
      have hl2 : ρ j = some l' := by simpa [Ren.add, e] using hl'
      exact (s.ok j o' l' hj hl2).move hle (hold _ (s.dom _ _ hl2).2)
  · rw [AHeap.get_push] at g1 g2
    by_cases e1 : j1 = h.n <;> by_cases e2 : j2 = h.n
    · exact .inl (by rw [e1, e2])
    · exfalso
      subst e1
      rw [Ren.add_new] at g3
      cases g3
      have : ρ j2 = some l2 := by simpa [Ren.add, e2] using g4
      have := (s.dom _ _ this).2
      simp only at g5
      omega
    · exfalso
      subst e2
      rw [Ren.add_new] at g4
      cases g4
      have : ρ j1 = some l1 := by simpa [Ren.add, e1] using g3
      have := (s.dom _ _ this).2
      simp only at g5
      omega
    · rw [if_neg e1] at g1
      rw [if_neg e2] at g2
      exact s.inj j1 j2 o1 o2 l1 l2 g1 g2 (by simpa [Ren.add, e1] using g3) (by simpa [Ren.add, e2] using g4) g5
  · simp only [AHeap.push]
    by_cases e : j = h.n
    · subst e
      rw [Ren.add_new] at hj
      cases hj
      exact ⟨.inl (by omega), hlt⟩
    · have := s.dom j l' (by simpa [Ren.add, e] using hj)
      omega
  · simp only [AHeap.push] at hj
    rw [AHeap.get_push, if_neg (by omega)]
    exact s.fresh j (by omega)
theorem Ext.pushAt (s : Sim M ρ h w) (hM : h.n < M) (o : AObj) (hk : o.kind ≠ 2) {g cap : Nat} (hge : w.heap.size ≤ g) (hold : ∀ k, k < w.heap.size → w'.heap[k]? = w.heap[k]?) (hsz : w.heap.size ≤ w'.heap.size) (ho : w'.os = w.os) (ht : w'.tape = w.tape) (hu : w'.output = w.output) :
    Ext ρ (ρ.add h.n ⟨g, cap, 0⟩) h (h.push o) w w' := by
  refine ⟨s.le_add hM _, fun i l h1 h2 => ?_, fun j oj hlt hj => ?_, fun j hlt hj => ?_, Nat.le_succ _, hsz, ho, ht, hu, fun b hb _ => hold b hb, fun j oj hj _ => ⟨?_, fun l' hl' => hold _ (s.dom _ _ hl').2⟩, fun j oj _ hj _ hk2 => ?_⟩
  · by_cases e : i = h.n
    · subst e
      rw [Ren.add_new] at h1
      cases h1
      exact ⟨Nat.le_refl _, Nat.lt_succ_self _, .inl hge⟩
    · simp [Ren.add, e, h2] at h1
  · rw [AHeap.get_push, if_neg (by omega)] at hj; exact ⟨oj, hj⟩
  · rw [AHeap.get_push, if_neg (by omega)]
  · rw [AHeap.get_push]
    split
    · rename_i e; subst e; rw [s.fresh _ (Nat.le_refl _)] at hj; cases hj
    · exact hj
  · rw [AHeap.get_push] at hj
    split at hj
    · cases hj; exact absurd hk2 hk
    · exact hj
/-- A call that leaves what was as it was. -/
theorem Sim.below (s : Sim M ρ h w) (hold : ∀ k, k < w.heap.size → w'.heap[k]? = w.heap[k]?) (hsz : w.heap.size ≤ w'.heap.size) : Sim M ρ h w' :=
  ⟨fun i o l h1 h2 => (s.ok i o l h1 h2).move (fun _ _ h => h) (hold _ (s.dom _ _ h2).2), s.inj, fun i l h1 => ⟨(s.dom i l h1).1, Nat.lt_of_lt_of_le (s.dom i l h1).2 hsz⟩, s.fresh, s.le⟩
theorem Ext.below (s : Sim M ρ h w) (hold : ∀ k, k < w.heap.size → w'.heap[k]? = w.heap[k]?) (hsz : w.heap.size ≤ w'.heap.size) (ho : w'.os = w.os) (ht : w'.tape = w.tape) (hu : w'.output = w.output) : Ext ρ ρ h h w w' :=
  ⟨Ren.le_refl _, (fun _ _ h1 h2 => by rw [h1] at h2; cases h2), fun _ o _ h => ⟨o, h⟩, fun _ _ _ => rfl, Nat.le_refl _, hsz, ho, ht, hu, fun b hb _ => hold b hb, fun _ _ h1 _ => ⟨h1, fun l hl => hold _ (s.dom _ _ hl).2⟩, fun _ _ _ h1 _ _ => h1⟩
end
end Go.Proofs.Ytfbedlhigggggaa
