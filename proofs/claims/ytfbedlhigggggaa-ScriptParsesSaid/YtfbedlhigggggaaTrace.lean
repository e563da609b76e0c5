/- What a region's run in the text's order is, said by numbers. -/
import Derived.Test.YtfbedlhigggggaaDraw
namespace Go.Proofs.Ytfbedlhigggggaa
open Go Go.RowKit
variable [Toks]

section
variable {P : Program} {call : XCall} {ops : Array Oper}
omit [Toks] in
theorem xtrace_ok : ∀ {l : List Oper} {st : St} {ss : List St}, xtrace P call ops l st = some ss → ss.length = l.length + 1 ∧ ss[0]? = some st ∧
    ∀ (i : Nat) (o : Oper), l[i]? = some o → ∃ s s', ss[i]? = some s ∧ ss[i + 1]? = some s' ∧ xstep P call ops o s = some s'
  | [], st, ss, h => by
    simp only [xtrace, Option.some.injEq] at h
    subst h
    exact ⟨rfl, rfl, fun i o hi => by simp at hi⟩
  | o :: l, st, ss, h => by
    simp only [xtrace] at h
    split at h
    · rename_i st1 h1
      simp only [Option.bind_eq_some_iff, Option.some.injEq] at h
      obtain ⟨r, hr, rfl⟩ := h
      obtain ⟨g1, g2, g3⟩ := xtrace_ok hr
      refine ⟨by simp [g1], rfl, fun i o' hi => ?_⟩
      cases i with
      | zero =>
        simp only [List.getElem?_cons_zero, Option.some.injEq] at hi
        subst hi
        exact ⟨st, st1, rfl, by simpa using g2, h1⟩
      | succ i => simpa using g3 i o' (by simpa using hi)
    · cases h
omit [Toks] in
theorem stagesX_mem : ∀ {l : List Oper} {ss : List St} (k : Nat), ss.length = l.length + 1 → ∀ (i : Nat) (s : St), ss[i]? = some s → (i = l.length ∨ ∃ o, l[i]? = some o ∧ mover ops (k + i) o = true) → (k + i, s.heap) ∈ stagesX ops ss k l
  | [], ss, k, hl, i, s, hs, hi => by
    match ss, hl with
    | [s0], _ =>
      cases i with
      | zero => simp at hs; subst hs; simp [stagesX]
      | succ i => simp at hs
  | o :: l, ss, k, hl, i, s, hs, hi => by
    match ss, hl with
    | s0 :: ss, hl =>
      have hl' : ss.length = l.length + 1 := by simpa using hl
      cases i with
      | zero =>
        simp only [List.getElem?_cons_zero, Option.some.injEq] at hs
        subst hs
        rcases hi with hi | ⟨o', ho, hm⟩
        · simp at hi
        · simp only [List.getElem?_cons_zero, Option.some.injEq] at ho
          subst ho
          simp only [stagesX]
          rw [Nat.add_zero] at hm
          rw [if_pos hm]
          simp
      | succ i =>
        have := stagesX_mem (l := l) (ss := ss) (k + 1) hl' i s (by simpa using hs) (by
          rcases hi with hi | ⟨o', ho, hm⟩
          · left; simpa using hi
          · right; exact ⟨o', by simpa using ho, by rw [show k + 1 + i = k + (i + 1) by omega]; exact hm⟩)
        rw [show k + 1 + i = k + (i + 1) by omega] at this
        simp only [stagesX]
        split
        · simp [this]
        · exact this
omit [Toks] in
theorem readsOk_get {hs : List (Nat × AHeap)} : ∀ {l : List Oper} {ss : List St} (k : Nat), ss.length = l.length + 1 → readsOk P ops hs ss k l = true → ∀ (i : Nat) (o : Oper) (s s' : St), l[i]? = some o → ss[i]? = some s → ss[i + 1]? = some s' → wantedX ops o s.tmps = true →
    ∀ q ∈ hs, readOk P o s.tmps (valAt o s') s.heap.n q.2 = true ∨ outOf ops (k + i) o q.1 = true
  | [], ss, k, _, _, i, o, s, s', ho, _, _, _, H, hH => by simp at ho
  | o :: l, ss, k, hl, h, i, o', s, s', ho, h1, h2, hw, H, hH => by
    match ss, hl with
    | s0 :: s1 :: ss, hl =>
      simp only [readsOk, Bool.and_eq_true] at h
      cases i with
      | zero =>
        simp at ho h1 h2
        subst ho h1 h2
        have := h.1
        rw [hw] at this
        simp only [Bool.not_true, Bool.false_or, List.all_eq_true, Bool.or_eq_true] at this
        exact this H hH
      | succ i =>
        rw [show k + (i + 1) = k + 1 + i by omega]
        exact readsOk_get (l := l) (ss := s1 :: ss) (k + 1) (by simpa using hl) h.2 i o' s s' (by simpa using ho) (by simpa using h1) (by simpa using h2) hw H hH
def IsMover (ops : Array Oper) (q : Nat) : Prop := ∃ o, ops[q]? = some o ∧ mover ops q o = true
structure Text (P : Program) (call : XCall) (ops : Array Oper) (S : Nat → St) : Prop where
  step : ∀ (i : Nat) (o : Oper), ops[i]? = some o → xstep P call ops o (S i) = some (S (i + 1))
  draw : drawOk ops = true
  reads : ∀ (i : Nat) (o : Oper), ops[i]? = some o → wantedX ops o (S i).tmps = true → ∀ q, q ≤ ops.size → (q = ops.size ∨ IsMover ops q) → readOk P o (S i).tmps (valAt o (S (i + 1))) (S i).heap.n (S q).heap = true ∨ outOf ops i o q = true
omit [Toks] in
theorem xdraw_text {st st' : St} (h : xdraw P call ops st = some st') : ∃ S, Text P call ops S ∧ S 0 = st ∧ S ops.size = st' := by
  simp only [xdraw, Option.bind_eq_some_iff] at h
  obtain ⟨ss, hss, h⟩ := h
  split at h
  · rename_i hc
    simp only [Bool.and_eq_true] at hc
    obtain ⟨g1, g2, g3⟩ := xtrace_ok hss
    have hlen : ops.toList.length = ops.size := by simp
    have hget : ∀ i, i ≤ ops.size → ss[i]? = some ((ss[i]?).getD st) := fun i hi => by
      rw [List.getElem?_eq_getElem (show i < ss.length by omega)]; rfl
    have hmem : ∀ i, i ≤ ops.size → (i = ops.size ∨ IsMover ops i) → (i, ((ss[i]?).getD st).heap) ∈ stagesX ops ss 0 ops.toList := fun i hi hm => by
      have := stagesX_mem (ops := ops) 0 (by omega) i _ (hget i hi) (by
        rcases hm with hm | ⟨o, ho, hm⟩
        · left; omega
        · right; exact ⟨o, by rw [Array.getElem?_toList]; exact ho, by rw [Nat.zero_add]; exact hm⟩)
      rwa [Nat.zero_add] at this
    refine ⟨fun i => (ss[i]?).getD st, ⟨fun i o ho => ?_, hc.1, fun i o ho hw q hq hm => ?_⟩, by simp only [g2, Option.getD_some], ?_⟩
    · obtain ⟨s, s', a1, a2, a3⟩ := g3 i o (by rw [Array.getElem?_toList]; exact ho)
      simp only [a1, a2, Option.getD_some]
      exact a3
    · obtain ⟨s, s', a1, a2, a3⟩ := g3 i o (by rw [Array.getElem?_toList]; exact ho)
      simp only [a1, a2, Option.getD_some] at hw ⊢
      have := readsOk_get 0 (by omega) hc.2 i o s s' (by rw [Array.getElem?_toList]; exact ho) a1 a2 hw _ (hmem q hq hm)
      rw [Nat.zero_add] at this
      exact this
    · rw [List.getLast?_eq_getElem?, show ss.length - 1 = ops.size by omega] at h
      simp only [h, Option.getD_some]
  · cases h

/-! What the region's look gives. -/
structure Looks (ops : Array Oper) : Prop where
  nosel : ∀ (i : Nat) (o : Oper), ops[i]? = some o → noSel o.op = true
  dsts : ∀ (i : Nat) (o : Oper), ops[i]? = some o → mover ops i o = false → o.dst.isSome = true
  back : ∀ (i : Nat) (o : Oper), ops[i]? = some o → ∀ e ∈ o.after, Region.binds .any e = true → e.on < i
  uniq : ∀ (i j : Nat) (o o' : Oper) (d : Tmp), ops[i]? = some o → ops[j]? = some o' → o.dst = some d → o'.dst = some d → i = j
  looks : ∀ (i j : Nat) (o o' : Oper) (t : Tmp), ops[i]? = some o → ops[j]? = some o' → t ∈ Oper.looksAt ops o → o'.dst = some t → (j < i → edgeTo o j = true) ∧ (i < j → edgeTo o' i = true)
  chain : ∀ (i j : Nat) (o o' : Oper), ops[i]? = some o → ops[j]? = some o' → mover ops i o = true → mover ops j o' = true → i < j → edgeTo o' i = true ∨ ∃ k, i < k ∧ k < j ∧ IsMover ops k
omit [Toks] in
theorem zip_mem {i : Nat} {o : Oper} (h : ops[i]? = some o) : (o, i) ∈ ops.toList.zipIdx := by
  rw [List.mem_zipIdx_iff_getElem?]
  simpa using h
omit [Toks] in
theorem looks_of (h : drawOk ops = true) : Looks ops := by
  unfold drawOk at h
  simp only [List.all_eq_true, Bool.and_eq_true] at h
  have A : ∀ (i : Nat) (o : Oper), ops[i]? = some o → _ := fun i o ho => h (o, i) (zip_mem ho)
  refine ⟨fun i o ho => (A i o ho).1.1.1.1.1, fun i o ho hm => (by
    have := (A i o ho).1.1.1.1.2
    rw [hm, Bool.or_false] at this
    exact this), fun i o ho e he hb => ?_, fun i j o o' d ho ho' hd hd' => ?_, fun i j o o' t ho ho' ht hd => ?_, fun i j o o' ho ho' hm hm' hij => ?_⟩
  · have := (A i o ho).1.1.1.2 e (by simpa using he)
    simpa [hb] using this
  · have := (A i o ho).1.1.2
    simp only [hd, List.all_eq_true] at this
    have := this (o', j) (zip_mem ho')
    simp only [hd', Bool.or_eq_true, Bool.not_eq_true', beq_self_eq_true, Bool.true_eq_false, or_false] at this
    exact (Nat.eq_of_beq_eq_true this).symm
  · have := (A i o ho).1.2 t ht (o', j) (zip_mem ho')
    simp only [hd, Bool.or_eq_true, Bool.not_eq_true', beq_self_eq_true, Bool.true_eq_false, false_or] at this
    constructor
    · intro hlt
      rw [if_pos hlt] at this
      exact this
    · intro hlt
      rw [if_neg (by omega)] at this
      simp only [Bool.or_eq_true] at this
      rcases this with e | e
      · have := Nat.eq_of_beq_eq_true e; omega
      · exact e
  · have := (A i o ho).2
    simp only [hm, Bool.not_true, Bool.false_or, List.all_eq_true] at this
    have := this (o', j) (zip_mem ho')
    simp only [hij, hm', decide_true, Bool.and_self, Bool.not_true, Bool.false_or, Bool.or_eq_true, List.any_eq_true, Bool.and_eq_true, decide_eq_true_eq] at this
    rcases this with e | ⟨⟨o2, k⟩, hk, ⟨h1, h2⟩, h3⟩
    · exact .inl e
    · rw [List.mem_zipIdx_iff_getElem?] at hk
      exact .inr ⟨k, h1, h2, o2, by simpa using hk, h3⟩
omit [Toks] in
theorem edgeTo_spec {o : Oper} {j : Nat} (h : edgeTo o j = true) : ∃ e ∈ o.after, Region.binds .any e = true ∧ e.on = j := by
  unfold edgeTo at h
  simp only [List.any_eq_true, Bool.and_eq_true] at h
  obtain ⟨e, h1, h2, h3⟩ := h
  exact ⟨e, by simpa using h1, h2, Nat.eq_of_beq_eq_true h3⟩
end
end Go.Proofs.Ytfbedlhigggggaa
