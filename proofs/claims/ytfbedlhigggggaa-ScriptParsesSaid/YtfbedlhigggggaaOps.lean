/- Each operation, abstract and real side by side. -/
import Derived.Test.YtfbedlhigggggaaStep
namespace Go.Proofs.Ytfbedlhigggggaa
open Go Go.RowKit
variable [Toks]

theorem VR1.of0 {ρ : Ren} {v v' : Value} (h : VR0 ρ v v') : VR1 ρ v v' := by
  unfold VR1
  split
  · simp [VR0, VR00, flat0] at h
  · exact h
theorem VR.of1 {ρ : Ren} {v v' : Value} (h : VR1 ρ v v') : VR ρ v v' := by
  unfold VR
  split
  · simp [VR1, VR0, VR00, flat0] at h
  · exact h
theorem VR.of0 {ρ : Ren} {v v' : Value} (h : VR0 ρ v v') : VR ρ v v' := VR.of1 (VR1.of0 h)
theorem VR0.isOne {ρ : Ren} {v v' : Value} (h : VR0 ρ v v') : one v = true ∧ one v' = true := by
  unfold VR0 at h
  split at h
  · obtain ⟨f', c', rfl, _⟩ := h; exact ⟨rfl, rfl⟩
  · unfold VR00 at h
    split at h
    · obtain ⟨_, l, _, rfl⟩ := h; exact ⟨rfl, rfl⟩
    · obtain ⟨_, l, o', c', _, rfl, _⟩ := h; exact ⟨rfl, rfl⟩
    · obtain ⟨l, _, rfl⟩ := h; exact ⟨rfl, rfl⟩
    · subst h; exact ⟨rfl, rfl⟩
    · obtain ⟨rfl, _⟩ := h; exact ⟨rfl, rfl⟩
    · rcases h.2.one with ⟨x, rfl⟩ | ⟨x, y, rfl⟩ <;> exact ⟨rfl, rfl⟩
    · obtain ⟨h1, rfl⟩ := h
      have : one v' = true := by cases v' <;> simp_all [one, flat0]
      exact ⟨this, this⟩
theorem LR.ones {ρ : Ren} : ∀ {l m : List Value}, LR (VR0 ρ) l m → m.all one = true
  | _, _, .nil => rfl
  | _, _, .cons h1 h2 => by simp [h1.isOne.2, LR.ones h2]
theorem VR.no_tuple {ρ : Ren} {v v' : Value} (h : VR ρ v v') (hn : ∀ vs, v ≠ .tuple vs) : VR1 ρ v v' := by
  unfold VR at h
  split at h
  · exact absurd rfl (hn _)
  · exact h
theorem VR1.cells {ρ : Ren} {v v' : Value} (h : VR1 ρ v v') : LR (VR0 ρ) v.cells.toList v'.cells.toList := by
  unfold VR1 at h
  split at h
  · obtain ⟨cs', rfl, h1⟩ := h; exact h1
  · rename_i hne
    have h1 := h.isOne
    have e : ∀ x : Value, one x = true → x.cells = #[x] := by intro x hx; cases x <;> simp_all [one, Value.cells]
    rw [e v h1.1, e v' h1.2]
    exact .cons h .nil
theorem cellsV_ok {ρ : Ren} {v v' : Value} (h : VR ρ v v') {cs : List Value} (hc : cellsV v = some cs) : LR (VR0 ρ) cs v'.cells.toList ∧ VR1 ρ v v' := by
  unfold cellsV at hc
  split at hc
  · cases hc
  · rename_i hne
    injection hc with hc
    subst hc
    have := h.no_tuple hne
    exact ⟨this.cells, this⟩
theorem VR.int {ρ : Ren} {k : IntKind} {n : Int} {v : Value} (h : VR ρ (.int k n) v) : v = .int k n := VR.eq rfl h
theorem VR.bool {ρ : Ren} {b : Bool} {v : Value} (h : VR ρ (.bool b) v) : v = .bool b := VR.eq rfl h
theorem VR.string {ρ : Ren} {s : ByteArray} {v : Value} (h : VR ρ (.string s) v) : v = .string s := VR.eq rfl h
theorem VR.ptr {ρ : Ren} {a : Addr} {v : Value} (h : VR ρ (.pointer (some a)) v) : a.spot = none ∧ ∃ l, ρ a.block = some l ∧ v = .pointer (some ⟨l.b, l.o + a.off, none⟩) := h
theorem VR.mkptr {ρ : Ren} {i off : Nat} {l : Loc} (h : ρ i = some l) : VR ρ (.pointer (some ⟨i, off, none⟩)) (.pointer (some ⟨l.b, l.o + off, none⟩)) := ⟨rfl, l, h, rfl⟩
theorem VR.slc {ρ : Ren} {a : Addr} {n c : Nat} {v : Value} (h : VR ρ (.slice (some a) n c) v) : n ≤ c ∧ ∃ l o' c', ρ a.block = some l ∧ v = .slice (some ⟨l.b, o', none⟩) n c' ∧ c ≤ c' ∧ (0 < c' → o' = l.o + a.off) ∧ (a.spot = none → c' = c) ∧ (a.spot ≠ none → 0 < c' → a.off = 0 → c' = l.cap) := h
theorem VR.tup {ρ : Ren} {vs : Array Value} {v : Value} (h : VR ρ (.tuple vs) v) : ∃ vs', v = .tuple vs' ∧ LR (VR1 ρ) vs.toList vs'.toList := h
theorem VR.agg {ρ : Ren} {vs : Array Value} {v : Value} (h : VR ρ (.agg vs) v) : ∃ vs', v = .agg vs' ∧ LR (VR0 ρ) vs.toList vs'.toList := h

def ValOk (P : Program) (M : Nat) (ρ : Ren) (h : AHeap) (w : World) (v : Value) (h' : AHeap) (s : Sem Value) : Prop :=
  ∃ ρ' v' w', s.run P w = .ok v' w' ∧ Ext ρ ρ' h h' w w' ∧ Sim M ρ' h' w' ∧ VR ρ' v v'
def OpOk (P : Program) (M : Nat) (ρ : Ren) (h : AHeap) (w : World) (v : Value) (h' : AHeap) (s : Sem Next) : Prop :=
  ∃ ρ' v' w', (s.run P w = .ok (.value v') w' ∨ (s.run P w = .ok .skip w' ∧ v' = undef)) ∧ Ext ρ ρ' h h' w w' ∧ Sim M ρ' h' w' ∧ VR ρ' v v'
def TR (ρ : Ren) (T : Tr Value) (tmps : Array Value) : Prop := ∀ t, VR ρ ((T.get t).getD undef) (tmps.getD t undef)
theorem TR.mono {ρ ρ' : Ren} {T : Tr Value} {tmps : Array Value} (h : TR ρ T tmps) (hl : ρ.le ρ') : TR ρ' T tmps := fun t => (h t).mono hl

section
variable {P : Program} {M : Nat} {ρ : Ren} {h h' : AHeap} {w : World} {T : Tr Value} {a : Act}
theorem ValOk.next {v : Value} {s : Sem Value} (hs : ValOk P M ρ h w v h' s) : OpOk P M ρ h w v h' (do pure (.value (← s))) := by
  obtain ⟨ρ', v', w', h1, h2⟩ := hs
  exact ⟨ρ', v', w', .inl (by simp only [Sem.run_bind, h1, Result.andThen_ok, Sem.run_pure]), h2⟩
theorem ValOk.quiet (s : Sim M ρ h w) {v v' : Value} {x : Sem Value} (hr : x.run P w = .ok v' w) (hv : VR ρ v v') : ValOk P M ρ h w v h x := ⟨ρ, v', w, hr, Ext.refl _ _ _, s, hv⟩
theorem ev_ok (ht : TR ρ T a.tmps) {x : Operand} {v : Value} (he : ev T x = some v) : VR ρ v (a.eval x) := by
  cases x with
  | tmp t => simp only [ev, Option.some.injEq] at he; subst he; exact ht t
  | const u =>
    simp only [ev] at he
    split at he
    · injection he with he; subst he; exact VR.flat ‹_›
    · cases he
  | func f => simp only [ev, Option.some.injEq] at he; subst he; exact VR.flat rfl
  | global g => simp [ev] at he
theorem evs_ok (ht : TR ρ T a.tmps) : ∀ {xs : List Operand} {vs : List Value}, evs T xs = some vs → LR (VR ρ) vs (xs.map a.eval)
  | [], _, he => by simp only [evs, Option.some.injEq] at he; subst he; exact .nil
  | x :: xs, _, he => by
    simp only [evs, Option.bind_eq_some_iff, Option.some.injEq] at he
    obtain ⟨v, h1, l, h2, rfl⟩ := he
    exact .cons (ev_ok ht h1) (evs_ok ht h2)
theorem evParts_ok (ht : TR ρ T a.tmps) : ∀ {xs : List (Nat × Operand)} {vs : List (Nat × Value)}, evParts T xs = some vs → LR (fun p q => p.1 = q.1 ∧ VR ρ p.2 q.2) vs (xs.map fun p => (p.1, a.eval p.2))
  | [], _, he => by simp only [evParts, Option.some.injEq] at he; subst he; exact .nil
  | (i, x) :: xs, _, he => by
    simp only [evParts, Option.bind_eq_some_iff, Option.some.injEq] at he
    obtain ⟨v, h1, l, h2, rfl⟩ := he
    exact .cons ⟨rfl, ev_ok ht h1⟩ (evParts_ok ht h2)
omit [Toks] in
theorem isAggP_ok {t : TypeId} {b : Bool} (hb : isAggP P t = some b) (w : World) : (isAgg t).run P w = .ok b w := by
  unfold isAggP at hb
  cases hu : P.underlying t with
  | none => rw [hu] at hb; cases hb
  | some d =>
    rw [hu] at hb
    simp only [Option.map_some, Option.some.injEq] at hb
    simp only [isAgg, Sem.run_bind, run_underlying hu, Result.andThen_ok]
    cases d <;> simp_all
omit [Toks] in
theorem sizeP_ok {t : TypeId} {n : Nat} (hn : sizeP P t = some n) (w : World) : (sizeOf t).run P w = .ok n w := by
  simp only [sizeP, Option.map_eq_some_iff] at hn
  obtain ⟨i, h1, rfl⟩ := hn
  simp [sizeOf, typeInfo, h1]
omit [Toks] in
theorem zeroP_ok {t : TypeId} {z : Value} (hz : zeroP P t = some z) (w : World) : (zeroValue t).run P w = .ok z w ∧ z.cells.toList.all flat0 = true := by
  unfold zeroP at hz
  split at hz
  · rename_i z' he
    split at hz
    · injection hz with hz
      subst hz
      simp only [Option.bind_eq_some_iff] at he
      obtain ⟨i, h1, h2⟩ := he
      exact ⟨by simp [zeroValue, typeInfo, h1, h2], ‹_›⟩
    · cases hz
  · cases hz
theorem load_ok (s : Sim M ρ h w) {t : TypeId} {ad : Addr} {v : Value} (hv : aload P h t ad = some v) {l : Loc} (hl : ρ ad.block = some l) :
    ∃ v', (loadVar t ⟨l.b, l.o + ad.off, none⟩).run P w = .ok v' w ∧ VR1 ρ v v' := by
  unfold aload at hv
  split at hv
  · cases hv
  · split at hv
    · rename_i o ho hagg
      simp only [Option.bind_eq_some_iff, Option.some.injEq] at hv
      obtain ⟨n, hn, cs, hcs, rfl⟩ := hv
      obtain ⟨cs', h1, h2⟩ := s.cells (P := P) ho hl hcs (l.o + ad.off) fun _ => rfl
      refine ⟨.agg cs', ?_, ⟨cs', rfl, by simpa using h2⟩⟩
      simp only [loadVar, Sem.run_bind, isAggP_ok hagg, Result.andThen_ok, if_true, sizeP_ok hn, h1, Sem.run_pure]
    · rename_i o ho hagg
      obtain ⟨ho, hk3⟩ := AHeap.cel_get ho
      obtain ⟨cc, fz, h1, h2, _⟩ := (s.ok _ o l ho hl).cells hk3
      obtain ⟨u', h3, h4⟩ := h2 _ _ hv
      refine ⟨u', ?_, VR1.of0 h4⟩
      simp only [loadVar, Sem.run_bind, isAggP_ok hagg, Result.andThen_ok, Bool.false_eq_true, if_false]
      simp [load, Sem.run, World.cell?, h1, h3]
    · cases hv
theorem astore_ok (s : Sim M ρ h w) {i off : Nat} {vs vs' : List Value} {l : Loc} (hs : astore h i off vs = some h') (hl : ρ i = some l) (hv : LR (VR0 ρ) vs vs') :
    ∃ w', (storeCells ⟨l.b, l.o + off, none⟩ vs').run P w = .ok () w' ∧ Ext ρ ρ h h' w w' ∧ Sim M ρ h' w' := by
  unfold astore at hs
  split at hs
  · rename_i o ho
    split at hs
    · cases hs
    · rename_i hc
      injection hs with hs
      subst hs
      have hk : o.kind ≠ 2 := fun e => hc (.inl e)
      obtain ⟨ho, hk3⟩ := AHeap.cel_get ho
      obtain ⟨cs, fz, h1, h2, h3, h4, h5⟩ := (s.ok i o l ho hl).cells hk3
      have hl0 : l.o = 0 := (h5 hk).2
      have hlen : o.cells.length ≤ cs.size := by
        rcases Nat.eq_zero_or_pos o.cells.length with h0 | h0
        · omega
        · obtain ⟨u', hu, _⟩ := h2 (o.cells.length - 1) _ (List.getElem?_eq_getElem (by omega))
          have := (Array.getElem?_eq_some_iff.1 hu).1
          omega
      have hle := hv.length
      rw [hl0, Nat.zero_add]
      simp only [hl0, Nat.zero_add] at h2
      obtain ⟨w', hr, hp⟩ := store_run (P := P) (off := off) vs' 0 cs w h1 (by omega) (h3 hk) hv.ones
      refine ⟨w', hr, Ext.put s ho hk hl _ (fun x e => by cases e; exact hk) hp, s.put ho hk3 hk hl _ hp ⟨cs, h1, by simp [splice_length]⟩ ?_⟩
      have := splice_LR (R := VR0 ρ) hv (l := o.cells) (l' := cs.toList) off (fun k u hu => by simpa using h2 k u hu) (by simpa using hlen)
      simpa [hl0] using this
  · cases hs
theorem anew_ok (s : Sim M ρ h w) (hM : h.n < M) {e : TypeId} {kind es : Nat} {cells : List Value} {cs : Array Value} (hk : kind < 3) (hk2 : kind ≠ 2) (hrel : ∀ (k : Nat) (u : Value), cells[k]? = some u → ∃ u', cs[k]? = some u' ∧ VR0 ρ u u') (cap : Nat) (hsz : cs.size = es * cap) (w2 : World) (hw : w2.heap = w.heap) (ho : w2.os = w.os) (ht : w2.tape = w.tape) (hu : w2.output = w.output) :
    (newRow e cs).run P w2 = .ok ⟨w.heap.size, 0, none⟩ { w2 with heap := w2.heap.push (.cells cs e) } ∧ Ext ρ (ρ.add h.n ⟨w.heap.size, cap, 0⟩) h (anew h e kind es cells).2 w { w2 with heap := w2.heap.push (.cells cs e) } ∧
      Sim M (ρ.add h.n ⟨w.heap.size, cap, 0⟩) (anew h e kind es cells).2 { w2 with heap := w2.heap.push (.cells cs e) } := by
  refine ⟨by simp [newRow, newObj, Sem.run, hw], Ext.push (ob := .cells cs e) s hM _ hk2 (by simp only [hw]) ho ht hu, s.push hM (e := e) (fz := (0, 0)) _ rfl (by simp only [hw]) hk hsz (fun _ => rfl) (fun k _ => by simp) hrel⟩
end
end Go.Proofs.Ytfbedlhigggggaa
