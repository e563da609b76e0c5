/- A region that draws its order: what holds however far it has come. -/
import Derived.Test.YtfbedlhigggggaaKeep
namespace Go.Proofs.Ytfbedlhigggggaa
open Go Go.RowKit
variable [Toks]

def On (listed : Array Bool) (j : Nat) : Prop := listed.getD j false = true
structure Inv (ops : Array Oper) (S : Nat → St) (ρ0 : Ren) (w0 : World) (ρ : Ren) (TS : Tr Value) (p : Nat) (listed : Array Bool) (a : Act) (w : World) : Prop where
  hsz : listed.size = ops.size
  closed : ∀ (j : Nat) (o : Oper), ops[j]? = some o → On listed j → ∀ e ∈ o.after, Region.binds .any e = true → On listed e.on
  mv : ∀ j, IsMover ops j → (On listed j ↔ j < p)
  hp : p ≤ ops.size ∧ (p = ops.size ∨ IsMover ops p)
  sub : ρ0.le ρ
  dom : ∀ id l, ρ id = some l → ρ0 id = some l ∨ ∃ j, j < ops.size ∧ On listed j ∧ (S j).heap.n ≤ id ∧ id < (S (j + 1)).heap.n
  tr : TR ρ TS a.tmps
  ts1 : ∀ (j : Nat) (o : Oper) (d : Tmp), ops[j]? = some o → On listed j → o.dst = some d → TS.get d = (S (j + 1)).tmps.get d
  ts0 : ∀ t : Tmp, (∀ (j : Nat) (o : Oper), ops[j]? = some o → On listed j → o.dst ≠ some t) → TS.get t = (S 0).tmps.get t
  nt : a.tmps.size = (S 0).nt
  df : a.defers = []
  ok : ∀ id o l, EL ops S p id o → ρ id = some l → Held ρ o l w
  inj : ∀ x y o o' l l', EL ops S p x o → EL ops S p y o' → ρ x = some l → ρ y = some l' → l.b = l'.b → x = y ∨ (o.kind = 2 ∧ o'.kind = 2)
  lt : ∀ id l, ρ id = some l → l.b < w.heap.size
  size : w0.heap.size ≤ w.heap.size
  os : w.os = w0.os
  tape : w.tape = w0.tape
  output : w.output = w0.output
  frame : ∀ b, b < w0.heap.size → (∀ i l o, ρ0 i = some l → (S 0).heap.get i = some o → o.kind ≠ 2 → l.b ≠ b) → w.heap[b]? = w0.heap[b]?
  back : ∀ id l o, ρ id = some l → EL ops S p id o → o.kind ≠ 2 → w0.heap.size ≤ l.b ∨ ∃ j l' o', ρ0 j = some l' ∧ (S 0).heap.get j = some o' ∧ o'.kind ≠ 2 ∧ l'.b = l.b
  newb : ∀ id l, ρ id = some l → ρ0 id = none → w0.heap.size ≤ l.b ∨ ∃ j l' o', ρ0 j = some l' ∧ (S 0).heap.get j = some o' ∧ o'.kind ≠ 2 ∧ l'.b = l.b
  ro : ∀ id o l, (S 0).heap.get id = some o → o.kind = 2 → ρ0 id = some l → w.heap[l.b]? = w0.heap[l.b]?
  roA : ∀ m, m < ops.size → On listed m → ∀ id o, id < (S 0).heap.n → (S m).heap.get id = some o → o.kind = 2 → (S (m + 1)).heap.get id = some o
  outs : ∀ m, m < ops.size → On listed m → ∀ j, j < m → ¬ On listed j → ∀ id, (S j).heap.n ≤ id → id < (S (j + 1)).heap.n → (S (m + 1)).heap.get id = (S m).heap.get id
  out0 : ∀ m, m < ops.size → On listed m → ∀ id, id < (S 0).heap.n → ρ0 id = none → (S (m + 1)).heap.get id = (S m).heap.get id
  aliveA : ∀ m, m < ops.size → On listed m → ∀ id o, id < (S 0).heap.n → (S (m + 1)).heap.get id = some o → ∃ o', (S m).heap.get id = some o'
  two : ∀ id o l, EL ops S p id o → ρ id = some l → o.kind = 2 → (S 0).heap.get id = some o

section
variable {P : Program} {call : XCall} {ops : Array Oper} {S : Nat → St} {M0 : Nat} {ρ0 ρ ρ' : Ren} {w0 w w' : World} {TS : Tr Value} {p p' : Nat} {listed : Array Bool} {a : Act}
omit [Toks] in
theorem on_set {i j : Nat} (hi : i < listed.size) : On (listed.setIfInBounds i true) j ↔ j = i ∨ On listed j := by
  unfold On
  by_cases e : j = i
  · subst e
    simp [hi]
  · rw [Array.getD_eq_getD_getElem?, Array.getElem?_setIfInBounds_ne (fun x => e x.symm), ← Array.getD_eq_getD_getElem?]
    simp [e]
omit [Toks] in
/-- What is waited for stands ahead. -/
theorem Looks.reach_lt (lk : Looks ops) : ∀ (n m : Nat) (o : Oper) (i : Nat), ops[m]? = some o → reachTo ops n o i = true → i < m := by
  intro n
  induction n with
  | zero =>
    intro m o i ho h
    obtain ⟨e, he1, he2, he3⟩ := edgeTo_spec h
    rw [← he3]
    exact lk.back m o ho e he1 he2
  | succ n ih =>
    intro m o i ho h
    simp only [reachTo, Bool.or_eq_true] at h
    rcases h with h | h
    · obtain ⟨e, he1, he2, he3⟩ := edgeTo_spec h
      rw [← he3]
      exact lk.back m o ho e he1 he2
    · rw [List.any_eq_true] at h
      obtain ⟨e, he1, h⟩ := h
      rw [Bool.and_eq_true] at h
      obtain ⟨he2, h⟩ := h
      have he1' : e ∈ o.after := Array.mem_toList_iff.1 he1
      have hb := lk.back m o ho e he1' he2
      split at h
      · rename_i o' ho'
        have := ih e.on o' i ho' h
        omega
      · cases h
/-- What is waited for is done. -/
theorem Inv.reach_on (inv : Inv ops S ρ0 w0 ρ TS p listed a w) : ∀ (n : Nat) (o : Oper) (i : Nat), (∀ e ∈ o.after, Region.binds .any e = true → On listed e.on) → reachTo ops n o i = true → On listed i := by
  intro n
  induction n with
  | zero =>
    intro o i hc h
    obtain ⟨e, he1, he2, he3⟩ := edgeTo_spec h
    rw [← he3]
    exact hc e he1 he2
  | succ n ih =>
    intro o i hc h
    simp only [reachTo, Bool.or_eq_true] at h
    rcases h with h | h
    · obtain ⟨e, he1, he2, he3⟩ := edgeTo_spec h
      rw [← he3]
      exact hc e he1 he2
    · rw [List.any_eq_true] at h
      obtain ⟨e, he1, h⟩ := h
      rw [Bool.and_eq_true] at h
      obtain ⟨he2, h⟩ := h
      have he1' : e ∈ o.after := Array.mem_toList_iff.1 he1
      have hon := hc e he1' he2
      split at h
      · rename_i o' ho'
        exact ih o' i (inv.closed e.on o' ho' hon) h
      · cases h
/-- What an operation looks at is as it is in the text's order. -/
theorem Inv.agree (t : Text P call ops S) (lk : Looks ops) (inv : Inv ops S ρ0 w0 ρ TS p listed a w) {i : Nat} {o : Oper} (ho : ops[i]? = some o) (hi : ¬ On listed i) (hedge : ∀ e ∈ o.after, Region.binds .any e = true → On listed e.on)
    {d : Tmp} (hd : d ∈ Oper.looksAt ops o) : TS.get d = (S i).tmps.get d := by
  have hil := idx_lt ho
  by_cases hw : ∃ (j : Nat) (o' : Oper), ops[j]? = some o' ∧ o'.dst = some d
  · obtain ⟨j, o', hj, hjd⟩ := hw
    have hjl := idx_lt hj
    obtain ⟨l1, l2⟩ := lk.looks i j o o' d ho hj hd hjd
    have other : ∀ (k : Nat) (o2 : Oper), ops[k]? = some o2 → k ≠ j → o2.dst ≠ some d := fun k o2 hk hne e => hne (lk.uniq k j o2 o' d hk hj e hjd)
    by_cases hji : j < i
    · obtain ⟨e, he1, he2, he3⟩ := edgeTo_spec (l1 hji)
      have hon : On listed j := by rw [← he3]; exact hedge e he1 he2
      rw [inv.ts1 j o' d hj hon hjd]
      have := t.same d (i - (j + 1)) (j + 1) (by omega) (fun k o2 h1 h2 hk => other k o2 hk (by omega))
      rw [show j + 1 + (i - (j + 1)) = i by omega] at this
      exact this.symm
    · have hoff : ¬ On listed j := by
        rcases Nat.lt_or_ge i j with e | e
        · intro hon
          obtain ⟨e', he1, he2, he3⟩ := edgeTo_spec (l2 e)
          have := inv.closed j o' hj hon e' he1 he2
          rw [he3] at this
          exact hi this
        · have : j = i := by omega
          rw [this]; exact hi
      rw [inv.ts0 d fun k o2 hk hon e => by
        have : k = j := Classical.byContradiction fun hne => other k o2 hk hne e
        subst this
        exact hoff hon]
      have := t.same d i 0 (by omega) (fun k o2 h1 h2 hk => other k o2 hk (by omega))
      rw [Nat.zero_add] at this
      exact this.symm
  · have none_ : ∀ (k : Nat) (o2 : Oper), ops[k]? = some o2 → o2.dst ≠ some d := fun k o2 hk e => hw ⟨k, o2, hk, e⟩
    rw [inv.ts0 d fun k o2 hk _ => none_ k o2 hk]
    have := t.same d i 0 (by omega) (fun k o2 h1 h2 hk => none_ k o2 hk)
    rw [Nat.zero_add] at this
    exact this.symm
theorem Inv.wanted (t : Text P call ops S) (lk : Looks ops) (inv : Inv ops S ρ0 w0 ρ TS p listed a w) {i : Nat} {o : Oper} (ho : ops[i]? = some o) (hi : ¬ On listed i) (hedge : ∀ e ∈ o.after, Region.binds .any e = true → On listed e.on) :
    Region.wanted o (yielded ops a.tmps) = wantedX ops o (S i).tmps := by
  rw [wantedX_ok inv.tr]
  unfold wantedX
  cases hg : o.guard with
  | none => rfl
  | some g =>
    obtain ⟨j, want⟩ := g
    simp only
    congr 1
    unfold yieldedX
    cases hd : (ops[j]?).bind (·.dst) with
    | none => rfl
    | some d =>
      simp only
      rw [inv.agree t lk ho hi hedge (d := d) (by
        unfold Oper.looksAt
        rw [hg, List.mem_append]
        right
        simp [hd])]
theorem Inv.xopEq (t : Text P call ops S) (lk : Looks ops) (inv : Inv ops S ρ0 w0 ρ TS p listed a w) {i : Nat} {o : Oper} (ho : ops[i]? = some o) (hi : ¬ On listed i) (hedge : ∀ e ∈ o.after, Region.binds .any e = true → On listed e.on) (X : AHeap) :
    xop P call o TS X = xop P call o (S i).tmps X :=
  xop_congr call o (fun x hx => ev_congr fun d e => inv.agree t lk ho hi hedge (by
    subst e
    unfold Oper.looksAt
    rw [List.mem_append]
    left
    rw [List.mem_filterMap]
    exact ⟨.tmp d, by simpa using hx, rfl⟩)) X
theorem Inv.view (t : Text P call ops S) (hm : CallMono call) (s0 : Sim M0 ρ0 (S 0).heap w0) (hM0 : (S ops.size).heap.n ≤ M0) (inv : Inv ops S ρ0 w0 ρ TS p listed a w) {i : Nat} (hil : i < ops.size) (hi : ¬ On listed i)
    {X : AHeap} (hX : X.n = (S i).heap.n) (hXg : ∀ id o, X.get id = some o → EL ops S p id o) : Sim (S (i + 1)).heap.n ρ X w := by
  refine ⟨fun id o l h1 h2 => inv.ok id o l (hXg id o h1) h2, fun x y o o' l l' h1 h2 => inv.inj x y o o' l l' (hXg x o h1) (hXg y o' h2), fun id l h => ⟨?_, inv.lt id l h⟩, fun id h => X.get_ge id h, by rw [hX]; exact t.le hm (by omega) (by omega)⟩
  rw [hX]
  rcases inv.dom id l h with h0 | ⟨j, h1, h2, h3, h4⟩
  · rcases (s0.dom id l h0).1 with e | e
    · exact .inl (Nat.lt_of_lt_of_le e (t.le hm (by omega) (by omega)))
    · exact .inr (Nat.le_trans (t.le hm (by omega) (Nat.le_refl _)) (Nat.le_trans hM0 e))
  · have hne : j ≠ i := fun e => by subst e; exact hi h2
    rcases Nat.lt_or_ge j i with e | e
    · exact .inl (Nat.lt_of_lt_of_le h4 (t.le hm (by omega) (by omega)))
    · exact .inr (Nat.le_trans (t.le hm (by omega) (by omega)) h3)
theorem Inv.ro_EL (t : Text P call ops S) (hm : CallMono call) (inv : Inv ops S ρ0 w0 ρ TS p listed a w) {id : Nat} {o : AObj} (h : (S 0).heap.get id = some o) (hk : o.kind = 2) : EL ops S p id o := by
  have hid := AHeap.get_lt h
  refine ⟨0, ⟨Nat.zero_le _, hid, fun y hy => by omega⟩, ?_⟩
  rw [Nat.max_eq_left (Nat.zero_le p)]
  have key : ∀ m, m ≤ p → (S m).heap.get id = some o := by
    intro m
    induction m with
    | zero => intro _; exact h
    | succ m ih =>
      intro hmp
      have h1 := ih (by omega)
      have hml : m < ops.size := by have := inv.hp.1; omega
      by_cases hmv : IsMover ops m
      · exact inv.roA m hml ((inv.mv m hmv).2 (by omega)) id o hid h1 hk
      · rw [t.keep hml hmv id (Nat.lt_of_lt_of_le hid (t.le hm (by omega) (by omega)))]
        exact h1
  exact key p (Nat.le_refl _)

/-- One more operation is done. -/
theorem Inv.next (t : Text P call ops S) (hm : CallMono call) (lk : Looks ops) (s0 : Sim M0 ρ0 (S 0).heap w0) (hM0 : (S ops.size).heap.n ≤ M0) (inv : Inv ops S ρ0 w0 ρ TS p listed a w)
    {i : Nat} {o : Oper} (ho : ops[i]? = some o) (hi : ¬ On listed i) (hedge : ∀ e ∈ o.after, Region.binds .any e = true → On listed e.on)
    {X X' : AHeap} {v v' : Value} (hX : X.n = (S i).heap.n) (hX' : X'.n = (S (i + 1)).heap.n) (hXg : ∀ id o, X.get id = some o ↔ id < (S i).heap.n ∧ EL ops S p id o)
    (E : Ext ρ ρ' X X' w w') (Sm : Sim (S (i + 1)).heap.n ρ' X' w') (hv : VR ρ' v v') (hval : ∀ d, o.dst = some d → (S (i + 1)).tmps.get d = some v ∧ d < (S 0).nt)
    (hp' : p' ≤ ops.size ∧ (p' = ops.size ∨ IsMover ops p')) (hmv : ∀ j, IsMover ops j → (On (listed.setIfInBounds i true) j ↔ j < p'))
    (hEL : ∀ id o, EL ops S p' id o → (id < (S (i + 1)).heap.n → X'.get id = some o) ∧ ((S (i + 1)).heap.n ≤ id → EL ops S p id o))
    (hroA : ∀ id o, id < (S 0).heap.n → (S i).heap.get id = some o → o.kind = 2 → (S (i + 1)).heap.get id = some o)
    (houts : ∀ j, j < i → ¬ On listed j → ∀ id, (S j).heap.n ≤ id → id < (S (j + 1)).heap.n → (S (i + 1)).heap.get id = (S i).heap.get id)
    (hout0 : ∀ id, id < (S 0).heap.n → ρ0 id = none → (S (i + 1)).heap.get id = (S i).heap.get id)
    (hal : ∀ id o, id < (S 0).heap.n → (S (i + 1)).heap.get id = some o → ∃ o', (S i).heap.get id = some o') :
    ∃ TS', Inv ops S ρ0 w0 ρ' TS' p' (listed.setIfInBounds i true) (a.put o.dst v') w' := by
  have hil := idx_lt ho
  have hls : i < listed.size := by rw [inv.hsz]; exact hil
  have on_ : ∀ j, On (listed.setIfInBounds i true) j ↔ j = i ∨ On listed j := fun j => on_set hls
  have h0i : (S 0).heap.n ≤ (S i).heap.n := t.le hm (by omega) (by omega)
  have hii : (S i).heap.n ≤ (S (i + 1)).heap.n := t.le hm (by omega) (by omega)
  have sX := inv.view t hm s0 hM0 hil hi hX (fun id o h => ((hXg id o).1 h).2)
  -- names that are new lie in this operation's own stretch
  have new_ : ∀ id l, ρ' id = some l → ρ id = none → (S i).heap.n ≤ id ∧ id < (S (i + 1)).heap.n := fun id l h1 h2 => by
    obtain ⟨a1, a2, _⟩ := E.new id l h1 h2
    rw [hX] at a1; rw [hX'] at a2
    exact ⟨a1, a2⟩
  have old_ : ∀ id l, ρ' id = some l → (S (i + 1)).heap.n ≤ id → ρ id = some l := fun id l h1 h2 => by
    cases h3 : ρ id with
    | none => have := new_ id l h1 h3; omega
    | some l2 =>
      have e := E.sub _ _ h3
      rw [h1] at e
      exact e.symm
  have far : ∀ id l o', ρ id = some l → (S (i + 1)).heap.n ≤ id → EL ops S p id o' → ∀ x l' o2, ρ x = some l' → X.get x = some o2 → o2.kind ≠ 2 → l'.b ≠ l.b := fun id l o' h1 h2 h3 x l' o2 g1 g2 gk e => by
    obtain ⟨q1, q2⟩ := (hXg x o2).1 g2
    rcases inv.inj x id o2 o' l' l q2 h3 g1 h1 e with z | z
    · omega
    · exact gk z.1
  have held : ∀ id l o', ρ id = some l → (S (i + 1)).heap.n ≤ id → EL ops S p id o' → w'.heap[l.b]? = w.heap[l.b]? := fun id l o' h1 h2 h3 => E.frame l.b (inv.lt id l h1) (far id l o' h1 h2 h3)
  have backX : ∀ x l' o2, ρ x = some l' → X.get x = some o2 → o2.kind ≠ 2 → w0.heap.size ≤ l'.b ∨ ∃ j l2 o3, ρ0 j = some l2 ∧ (S 0).heap.get j = some o3 ∧ o3.kind ≠ 2 ∧ l2.b = l'.b := fun x l' o2 g1 g2 => inv.back x l' o2 g1 ((hXg x o2).1 g2).2
  have newb_ : ∀ id l, ρ' id = some l → ρ id = none → w0.heap.size ≤ l.b ∨ ∃ j l' o', ρ0 j = some l' ∧ (S 0).heap.get j = some o' ∧ o'.kind ≠ 2 ∧ l'.b = l.b := fun id l h1 h2 => by
    obtain ⟨_, _, z | ⟨j, l', o2, z1, z2, zk, z3⟩⟩ := E.new id l h1 h2
    · exact .inl (Nat.le_trans inv.size z)
    · rw [← z3]; exact backX j l' o2 z1 z2 zk
  obtain ⟨TS', hTS⟩ : ∃ TS' : Tr Value, ∀ d, TS'.get d = if o.dst = some d then some v else TS.get d := by
    cases hd : o.dst with
    | none => exact ⟨TS, fun d => by simp⟩
    | some d0 =>
      refine ⟨TS.set d0 (some v), fun d => ?_⟩
      rw [Tr.get_set]
      by_cases e : d = d0
      · subst e; simp
      · rw [if_neg e, if_neg (fun x => e (Option.some.inj x).symm)]
  have htr : TR ρ' TS' (a.put o.dst v').tmps ∧ (a.put o.dst v').tmps.size = (S 0).nt ∧ (a.put o.dst v').defers = [] := by
    have ht := inv.tr.mono E.sub
    cases hd : o.dst with
    | none =>
      refine ⟨fun d => ?_, inv.nt, inv.df⟩
      rw [hTS d, hd]
      simp only [Act.put]
      rw [if_neg (by simp)]
      exact ht d
    | some d0 =>
      have hlt : (d0 : Nat) < a.tmps.size := by rw [inv.nt]; exact (hval d0 hd).2
      refine ⟨fun d => ?_, by simp [Act.put, inv.nt], inv.df⟩
      rw [hTS d, hd]
      simp only [Act.put]
      by_cases e : d = d0
      · subst e
        rw [if_pos rfl, Option.getD_some, Array.getD_eq_getD_getElem?, Array.getElem?_setIfInBounds_self_of_lt hlt, Option.getD_some]
        exact hv
      · rw [if_neg (fun x => e (Option.some.inj x).symm), Array.getD_eq_getD_getElem?, Array.getElem?_setIfInBounds_ne (fun x => e x.symm)]
        have := ht d
        rwa [Array.getD_eq_getD_getElem?] at this
  refine ⟨TS', ⟨by simp [inv.hsz], ?_, hmv, hp', fun id l h => E.sub id l (inv.sub id l h), ?_, htr.1, ?_, ?_, htr.2.1, htr.2.2, ?_, ?_, ?_, Nat.le_trans inv.size E.size, E.os.trans inv.os, E.tape.trans inv.tape, E.output.trans inv.output, ?_, ?_, ?_, ?_, ?_, ?_, ?_, ?_, ?_⟩⟩
  · intro j o' hj hon e he hb
    rw [on_] at hon ⊢
    rcases hon with rfl | hon
    · rw [ho] at hj
      cases hj
      exact .inr (hedge e he hb)
    · exact .inr (inv.closed j o' hj hon e he hb)
  · intro id l h
    cases h3 : ρ id with
    | none =>
      obtain ⟨a1, a2⟩ := new_ id l h h3
      exact .inr ⟨i, hil, (on_ i).2 (.inl rfl), a1, a2⟩
    | some l2 =>
      have e := E.sub _ _ h3
      rw [h] at e
      cases e
      rcases inv.dom id l h3 with g | ⟨j, g1, g2, g3⟩
      · exact .inl g
      · exact .inr ⟨j, g1, (on_ j).2 (.inr g2), g3⟩
  · intro j o' d hj hon hd
    rw [on_] at hon
    rw [hTS]
    rcases hon with rfl | hon
    · rw [ho] at hj
      cases hj
      rw [if_pos hd, (hval d hd).1]
    · by_cases e : o.dst = some d
      · have := lk.uniq i j o o' d ho hj e hd
        subst this
        exact absurd hon hi
      · rw [if_neg e]
        exact inv.ts1 j o' d hj hon hd
  · intro d hd
    rw [hTS, if_neg (hd i o ho ((on_ i).2 (.inl rfl)))]
    exact inv.ts0 d fun j o' hj hon => hd j o' hj ((on_ j).2 (.inr hon))
  · intro id o' l h1 h2
    obtain ⟨e1, e2⟩ := hEL id o' h1
    rcases Nat.lt_or_ge id (S (i + 1)).heap.n with hlt | hge
    · exact Sm.ok id o' l (e1 hlt) h2
    · have h3 := old_ id l h2 hge
      exact (inv.ok id o' l (e2 hge) h3).move E.sub (held id l o' h3 hge (e2 hge))
  · intro x y o1 o2 l l' h1 h2 h3 h4 h5
    obtain ⟨e1, e2⟩ := hEL x o1 h1
    obtain ⟨f1, f2⟩ := hEL y o2 h2
    have mixed : ∀ x y o1 o2 l l', x < (S (i + 1)).heap.n → (S (i + 1)).heap.n ≤ y → X'.get x = some o1 → EL ops S p y o2 → ρ' x = some l → ρ' y = some l' → l.b = l'.b → o1.kind = 2 ∧ o2.kind = 2 := by
      intro x y o1 o2 l l' hx hy g1 g2 g3 g4 e
      have hyρ := old_ y l' g4 hy
      by_cases k2 : o1.kind = 2
      · have g5 := E.old2 x o1 l g1 g3 k2
        obtain ⟨q1, q2⟩ := (hXg x o1).1 g5
        have g6 : ρ x = some l := by
          cases h7 : ρ x with
          | none => have := new_ x l g3 h7; omega
          | some l7 => have e7 := E.sub _ _ h7; rw [g3] at e7; exact e7.symm
        rcases inv.inj x y o1 o2 l l' q2 g2 g6 hyρ e with z | z
        · omega
        · exact z
      · exfalso
        rcases E.back sX (by exact Sm) g3 g1 k2 with z | ⟨j, l2, o3, z1, z2, zk, z3⟩
        · have := inv.lt y l' hyρ; omega
        · exact far y l' o2 hyρ hy g2 j l2 o3 z1 z2 zk (z3.trans e)
    rcases Nat.lt_or_ge x (S (i + 1)).heap.n with hx | hx <;> rcases Nat.lt_or_ge y (S (i + 1)).heap.n with hy | hy
    · exact Sm.inj x y o1 o2 l l' (e1 hx) (f1 hy) h3 h4 h5
    · exact .inr (mixed x y o1 o2 l l' hx hy (e1 hx) (f2 hy) h3 h4 h5)
    · exact .inr (mixed y x o2 o1 l' l hy hx (f1 hy) (e2 hx) h4 h3 h5.symm).symm
    · exact inv.inj x y o1 o2 l l' (e2 hx) (f2 hy) (old_ x l h3 hx) (old_ y l' h4 hy) h5
  · exact fun id l h => (Sm.dom id l h).2
  · intro b hb hn
    refine (E.frame b (Nat.lt_of_lt_of_le hb inv.size) fun x l' o2 g1 g2 gk e => ?_).trans (inv.frame b hb hn)
    rcases backX x l' o2 g1 g2 gk with z | ⟨j, l2, o3, z1, z2, zk, z3⟩
    · omega
    · exact hn j l2 o3 z1 z2 zk (z3.trans e)
  · intro id l o' h1 h2 hk2
    obtain ⟨e1, e2⟩ := hEL id o' h2
    rcases Nat.lt_or_ge id (S (i + 1)).heap.n with hlt | hge
    · rcases E.back sX (by exact Sm) h1 (e1 hlt) hk2 with z | ⟨j, l2, o3, z1, z2, zk, z3⟩
      · exact .inl (Nat.le_trans inv.size z)
      · rw [← z3]; exact backX j l2 o3 z1 z2 zk
    · exact inv.back id l o' (old_ id l h1 hge) (e2 hge) hk2
  · intro id l h1 h2
    cases h3 : ρ id with
    | none => exact newb_ id l h1 h3
    | some l2 =>
      have e := E.sub _ _ h3
      rw [h1] at e
      cases e
      exact inv.newb id l h3 h2
  · intro id o' l h1 h2 h3
    have hX1 : X.get id = some o' := (hXg id o').2 ⟨Nat.lt_of_lt_of_le (AHeap.get_lt h1) h0i, inv.ro_EL t hm h1 h2⟩
    exact ((E.ro id o' hX1 h2).2 l (inv.sub id l h3)).trans (inv.ro id o' l h1 h2 h3)
  · intro m hml hon id o' h1 h2 h3
    rw [on_] at hon
    rcases hon with rfl | hon
    · exact hroA id o' h1 h2 h3
    · exact inv.roA m hml hon id o' h1 h2 h3
  · intro m hml hon j hj hoff id h1 h2
    rw [on_] at hon
    have hoff2 : ¬ On listed j := fun x => hoff ((on_ j).2 (.inr x))
    rcases hon with rfl | hon
    · exact houts j hj hoff2 id h1 h2
    · exact inv.outs m hml hon j hj hoff2 id h1 h2
  · intro m hml hon id h1 h2
    rw [on_] at hon
    rcases hon with rfl | hon
    · exact hout0 id h1 h2
    · exact inv.out0 m hml hon id h1 h2
  · intro m hml hon id o' h1 h2
    rw [on_] at hon
    rcases hon with rfl | hon
    · exact hal id o' h1 h2
    · exact inv.aliveA m hml hon id o' h1 h2
  · intro id o' l h1 h2 hk2
    obtain ⟨e1, e2⟩ := hEL id o' h1
    rcases Nat.lt_or_ge id (S (i + 1)).heap.n with hlt | hge
    · have g5 := E.old2 id o' l (e1 hlt) h2 hk2
      obtain ⟨q1, q2⟩ := (hXg id o').1 g5
      cases h7 : ρ id with
      | none => have := new_ id l h2 h7; omega
      | some l7 => exact inv.two id o' l7 q2 h7 hk2
    · exact inv.two id o' l (e2 hge) (old_ id l h2 hge) hk2
end
end Go.Proofs.Ytfbedlhigggggaa
