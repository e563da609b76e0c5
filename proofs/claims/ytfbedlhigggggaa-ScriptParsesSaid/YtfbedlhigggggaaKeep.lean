/- What does not turn memory; a region's states by numbers. -/
import Derived.Test.YtfbedlhigggggaaTrace
namespace Go.Proofs.Ytfbedlhigggggaa
open Go Go.RowKit
variable [Toks]

section
variable {P : Program} {h h' : AHeap} {T : Tr Value}
omit [Toks] in
theorem xop_keep {call : XCall} {o : Oper} {v : Value} (he : effect o.op = false) (hv : xop P call o T h = some (v, h')) : h' = h ∨ ∃ ob, h' = h.push ob := by
  have pure_ : xpure P o T h = some (v, h') → h' = h ∨ ∃ ob, h' = h.push ob := fun hv => .inl (xpure_h hv).1
  have at_ : ∀ {x : Option Value}, atomic h x = some (v, h') → h' = h ∨ ∃ ob, h' = h.push ob := fun e => .inl (atomic_eq e).2
  have nw : ∀ {e : TypeId} {k es : Nat} {cells : List Value}, anew h e k es cells = (v, h') → h' = h ∨ ∃ ob, h' = h.push ob := by
    intro e k es cells he
    simp only [anew, Prod.mk.injEq] at he
    exact .inr ⟨_, he.2.symm⟩
  have orp : ∀ {r : Option (Value × AHeap)}, orPure P r o T h = some (v, h') → (∀ q, r = some q → q.2 = h ∨ ∃ ob, q.2 = h.push ob) → h' = h ∨ ∃ ob, h' = h.push ob := by
    intro r hv h1
    unfold orPure at hv
    split at hv
    · injection hv with hv; subst hv; exact h1 _ rfl
    · exact pure_ hv
  obtain ⟨dst, op, type, pos, after, guard⟩ := o
  cases op <;> simp only [xop] at hv
  case move x => exact at_ hv
  case assign x => simp [effect] at he
  case pick c x y => split at hv; exact at_ hv; cases hv
  case extract x ix => split at hv; exact at_ hv; cases hv
  case nilCheck x =>
    split at hv
    · injection hv with hv; injection hv with _ hv; exact .inl hv.symm
    · cases hv
  case alloc e =>
    split at hv
    · injection hv with hv; exact nw hv
    · cases hv
  case box e x =>
    simp only [Option.bind_eq_some_iff, Option.some.injEq] at hv
    obtain ⟨u, hu, cs, hcs, hv⟩ := hv
    exact nw hv
  case build t ps =>
    simp only [Option.bind_eq_some_iff] at hv
    obtain ⟨l, hl, hv⟩ := hv
    exact at_ hv
  case buildSlice t n ps =>
    simp only [Option.bind_eq_some_iff] at hv
    obtain ⟨l, hl, hv⟩ := hv
    unfold abuildSlice at hv
    split at hv
    · split at hv
      · split at hv
        · cases hv
        · split at hv
          · injection hv with hv; injection hv with _ hv; exact .inr ⟨_, hv.symm⟩
          · cases hv
      · cases hv
    · cases hv
  case load t x => split at hv; exact at_ hv; cases hv
  case store t x y => simp [effect] at he
  case unOp op t x =>
    split at hv
    · injection hv with hv; injection hv with _ hv; exact .inl hv.symm
    · exact pure_ hv
  case binOp op t x y yt =>
    split at hv
    · split at hv
      · injection hv with hv; injection hv with _ hv; exact .inl hv.symm
      · cases op <;> simp only at hv
        case eql =>
          split at hv
          · injection hv with hv; injection hv with _ hv; exact .inl hv.symm
          · exact pure_ hv
        case neq =>
          split at hv
          · injection hv with hv; injection hv with _ hv; exact .inl hv.symm
          · exact pure_ hv
        all_goals exact pure_ hv
    · cases hv
  case convert src d x =>
    simp only [Option.bind_eq_some_iff] at hv
    obtain ⟨u, hu, hv⟩ := hv
    split at hv
    · injection hv with hv; injection hv with _ hv; exact .inl hv.symm
    refine orp hv fun q hq => ?_
    unfold aconvert at hq
    split at hq
    · split at hq
      · split at hq
        · injection hq with hq; subst hq; exact .inl rfl
        · split at hq
          · simp only [Option.bind_eq_some_iff, Option.some.injEq] at hq
            obtain ⟨_, _, _, _, rfl⟩ := hq
            exact .inl rfl
          · cases hq
      · cases hq
    · split at hq
      · split at hq
        · cases hq
        · injection hq with hq; subst hq; exact .inr ⟨_, rfl⟩
      · cases hq
    · cases hq
  case makeSlice t l c =>
    split at hv
    · unfold amakeSlice at hv
      split at hv
      · split at hv
        · split at hv
          · injection hv with hv; injection hv with _ hv; exact .inr ⟨_, hv.symm⟩
          · cases hv
        · cases hv
      · cases hv
    · cases hv
  case slice t x lo hi mx =>
    split at hv
    · simp only [Option.bind_eq_some_iff] at hv
      obtain ⟨l1, h1, l2, h2, l3, h3, hv⟩ := hv
      exact at_ hv
    · exact pure_ hv
  case fieldAddr t x f =>
    simp only [Option.bind_eq_some_iff] at hv
    obtain ⟨u, hu, hv⟩ := hv
    exact at_ hv
  case field t x f =>
    simp only [Option.bind_eq_some_iff] at hv
    obtain ⟨u, hu, hv⟩ := hv
    exact at_ hv
  case indexAddr t x i => split at hv; exact at_ hv; cases hv
  case makeFunc fn f c =>
    simp only [Option.bind_eq_some_iff] at hv
    obtain ⟨l1, h1, l2, h2, hv⟩ := hv
    split at hv
    · injection hv with hv; injection hv with _ hv; exact .inl hv.symm
    · cases hv
  case call c =>
    obtain ⟨callee, args, argTypes⟩ := c
    cases callee with
    | value f => simp [effect] at he
    | invoke r m => simp [effect] at he
    | builtin b =>
      simp only [Option.bind_eq_some_iff] at hv
      obtain ⟨vs, hvs, hv⟩ := hv
      refine orp hv fun q hq => ?_
      unfold xbuiltin at hq
      split at hq
      · simp [effect] at he
      · simp [effect] at he
      · split at hq
        · injection hq with hq; subst hq; exact .inl rfl
        · cases hq
      · split at hq
        · split at hq
          · cases hq
          · injection hq with hq; subst hq; exact .inl rfl
        · cases hq
      · unfold pickB at hq
        split at hq
        · injection hq with hq; subst hq; exact .inl rfl
        · cases hq
      · unfold pickB at hq
        split at hq
        · injection hq with hq; subst hq; exact .inl rfl
        · cases hq
      · unfold pickB at hq
        split at hq
        · injection hq with hq; subst hq; exact .inl rfl
        · cases hq
      · cases b <;> simp only [xbuiltin2] at hq
        case clear => simp [effect] at he
        case delete => simp [effect] at he
        case len =>
          split at hq
          · unfold xlen at hq
            split at hq
            · simp only [Option.bind_eq_some_iff, Option.some.injEq] at hq
              obtain ⟨_, _, rfl⟩ := hq
              exact .inl rfl
            · cases hq
          · cases hq
        all_goals cases hq
  case makeMap t r =>
    cases r with
    | some x => exact pure_ hv
    | none =>
      simp only [Option.some.injEq, Prod.mk.injEq] at hv
      exact .inr ⟨_, hv.2.symm⟩
  case range t x =>
    split at hv
    · simp only [Option.some.injEq, Prod.mk.injEq] at hv
      exact .inr ⟨_, hv.2.symm⟩
    · cases hv
  case next x isS => simp [effect] at he
  case lookup t x k ok =>
    split at hv
    · exact at_ hv
    · exact pure_ hv
  case mapUpdate t x k y => simp [effect] at he
  all_goals exact pure_ hv
end

section
variable {P : Program} {call : XCall} {ops : Array Oper} {S : Nat → St}
omit [Toks] in
theorem putX_get {st st' : St} {dst : Option Tmp} {v : Value} {h : AHeap} (hp : putX st dst v h = some st') (t : Tmp) : st'.tmps.get t = if dst = some t then some v else st.tmps.get t := by
  cases dst with
  | none => simp only [putX, Option.some.injEq] at hp; subst hp; simp
  | some d =>
    simp only [putX] at hp
    split at hp
    · injection hp with hp
      subst hp
      simp only [Tr.get_set, Option.some.injEq]
      by_cases e : t = d
      · subst e; simp
      · rw [if_neg e, if_neg fun x => e x.symm]
    · cases hp
omit [Toks] in
theorem idx_lt {i : Nat} {o : Oper} (h : ops[i]? = some o) : i < ops.size := (Array.getElem?_eq_some_iff.1 h).1
omit [Toks] in
theorem idx_some {i : Nat} (h : i < ops.size) : ∃ o, ops[i]? = some o := ⟨_, Array.getElem?_eq_getElem h⟩
omit [Toks] in
theorem Text.get (t : Text P call ops S) {i : Nat} {o : Oper} (ho : ops[i]? = some o) (d : Tmp) (hd : o.dst ≠ some d) : (S (i + 1)).tmps.get d = (S i).tmps.get d := by
  have h := t.step i o ho
  unfold xstep at h
  split at h
  · simp only [Option.bind_eq_some_iff] at h
    obtain ⟨r, _, hp⟩ := h
    rw [putX_get hp, if_neg hd]
  · rw [putX_get h, if_neg hd]
omit [Toks] in
theorem Text.nt (t : Text P call ops S) : ∀ i, i ≤ ops.size → (S i).nt = (S 0).nt
  | 0, _ => rfl
  | i + 1, hi => by
    obtain ⟨o, ho⟩ := idx_some (ops := ops) (i := i) (by omega)
    have h := t.step i o ho
    rw [← Text.nt t i (by omega)]
    unfold xstep at h
    split at h
    · simp only [Option.bind_eq_some_iff] at h
      obtain ⟨r, _, hp⟩ := h
      exact (putX_n hp).2
    · exact (putX_n h).2
omit [Toks] in
/-- A slot that nobody writes on a stretch. -/
theorem Text.same (t : Text P call ops S) (d : Tmp) : ∀ (k i : Nat), i + k ≤ ops.size → (∀ j o, i ≤ j → j < i + k → ops[j]? = some o → o.dst ≠ some d) → (S (i + k)).tmps.get d = (S i).tmps.get d
  | 0, i, _, _ => rfl
  | k + 1, i, hi, hn => by
    obtain ⟨o, ho⟩ := idx_some (ops := ops) (i := i + k) (by omega)
    rw [show i + (k + 1) = (i + k) + 1 by omega, t.get ho d (hn _ o (by omega) (by omega) ho)]
    exact Text.same t d k i (by omega) fun j o' h1 h2 => hn j o' h1 (by omega)
omit [Toks] in
theorem Text.mono (t : Text P call ops S) (hm : CallMono call) : ∀ (k i : Nat), i + k ≤ ops.size → (S i).heap.n ≤ (S (i + k)).heap.n
  | 0, i, _ => Nat.le_refl _
  | k + 1, i, hi => by
    obtain ⟨o, ho⟩ := idx_some (ops := ops) (i := i + k) (by omega)
    exact Nat.le_trans (Text.mono t hm k i (by omega)) (xstep_n hm (t.step _ o ho))
omit [Toks] in
theorem Text.le (t : Text P call ops S) (hm : CallMono call) {i j : Nat} (hij : i ≤ j) (hj : j ≤ ops.size) : (S i).heap.n ≤ (S j).heap.n := by
  have := t.mono hm (j - i) i (by omega)
  rwa [show i + (j - i) = j by omega] at this
omit [Toks] in
theorem not_mover {i : Nat} {o : Oper} (ho : ops[i]? = some o) (h : ¬ IsMover ops i) : mover ops i o = false := by
  cases e : mover ops i o with
  | false => rfl
  | true => exact absurd ⟨o, ho, e⟩ h
omit [Toks] in
theorem mover_effect {i : Nat} {o : Oper} (h : mover ops i o = false) : effect o.op = false := by
  unfold mover at h
  simp only [Bool.or_eq_false_iff] at h
  exact h.1
omit [Toks] in
theorem Text.keep1 (t : Text P call ops S) {i : Nat} {o : Oper} (ho : ops[i]? = some o) (hnm : ¬ IsMover ops i) : (S (i + 1)).heap = (S i).heap ∨ ∃ ob, (S (i + 1)).heap = (S i).heap.push ob := by
  have h := t.step i o ho
  unfold xstep at h
  split at h
  · simp only [Option.bind_eq_some_iff] at h
    obtain ⟨⟨v, h'⟩, hv, hp⟩ := h
    rw [(putX_n hp).1]
    exact xop_keep (mover_effect (not_mover ho hnm)) hv
  · exact .inl (putX_n h).1
omit [Toks] in
theorem Text.keep (t : Text P call ops S) {i : Nat} (hi : i < ops.size) (hnm : ¬ IsMover ops i) (id : Nat) (hid : id < (S i).heap.n) : (S (i + 1)).heap.get id = (S i).heap.get id := by
  obtain ⟨o, ho⟩ := idx_some hi
  rcases t.keep1 ho hnm with e | ⟨ob, e⟩
  · rw [e]
  · rw [e, AHeap.get_push, if_neg (by omega)]
omit [Toks] in
theorem Text.stay (t : Text P call ops S) (hm : CallMono call) : ∀ (k i : Nat), i + k ≤ ops.size → (∀ m, i ≤ m → m < i + k → ¬ IsMover ops m) → ∀ id, id < (S i).heap.n → (S (i + k)).heap.get id = (S i).heap.get id
  | 0, i, _, _, _, _ => rfl
  | k + 1, i, hi, hn, id, hid => by
    have hle := t.le hm (i := i) (j := i + k) (by omega) (by omega)
    rw [show i + (k + 1) = (i + k) + 1 by omega, t.keep (by omega) (hn _ (by omega) (by omega)) id (by omega)]
    exact Text.stay t hm k i (by omega) (fun m h1 h2 => hn m h1 (by omega)) id hid
omit [Toks] in
theorem Text.stay' (t : Text P call ops S) (hm : CallMono call) {i j : Nat} (hij : i ≤ j) (hj : j ≤ ops.size) (hn : ∀ m, i ≤ m → m < j → ¬ IsMover ops m) (id : Nat) (hid : id < (S i).heap.n) : (S j).heap.get id = (S i).heap.get id := by
  have := t.stay hm (j - i) i (by omega) (fun m h1 h2 => hn m h1 (by omega)) id hid
  rwa [show i + (j - i) = j by omega] at this
omit [Toks] in
theorem next_stage : ∀ (k x : Nat), x + k = ops.size → ∃ q, x ≤ q ∧ q ≤ ops.size ∧ (q = ops.size ∨ IsMover ops q) ∧ ∀ m, x ≤ m → m < q → ¬ IsMover ops m
  | 0, x, hx => ⟨x, Nat.le_refl _, by omega, .inl (by omega), fun m h1 h2 => by omega⟩
  | k + 1, x, hx => by
    by_cases h : IsMover ops x
    · exact ⟨x, Nat.le_refl _, by omega, .inr h, fun m h1 h2 => by omega⟩
    · obtain ⟨q, h1, h2, h3, h4⟩ := next_stage k (x + 1) (by omega)
      refine ⟨q, by omega, h2, h3, fun m g1 g2 => ?_⟩
      by_cases e : m = x
      · rw [e]; exact h
      · exact h4 m (by omega) g2
/-- A block's birth: the first state that has it. -/
def Born (ops : Array Oper) (S : Nat → St) (id x : Nat) : Prop := x ≤ ops.size ∧ id < (S x).heap.n ∧ ∀ y, y < x → (S y).heap.n ≤ id
omit [Toks] in
theorem born_exists (t : Text P call ops S) (hm : CallMono call) (id : Nat) : ∀ y, y ≤ ops.size → id < (S y).heap.n → ∃ x, x ≤ y ∧ Born ops S id x
  | 0, hy, h => ⟨0, Nat.le_refl _, hy, h, fun y hy => by omega⟩
  | y + 1, hy, h => by
    rcases Nat.lt_or_ge id (S y).heap.n with e | e
    · obtain ⟨x, h1, h2⟩ := born_exists t hm id y (by omega) e
      exact ⟨x, by omega, h2⟩
    · exact ⟨y + 1, Nat.le_refl _, hy, h, fun z hz => Nat.le_trans (t.le hm (i := z) (j := y) (by omega) (by omega)) e⟩
omit [Toks] in
theorem born_unique {id x y : Nat} (h1 : Born ops S id x) (h2 : Born ops S id y) : x = y := by
  rcases Nat.lt_trichotomy x y with e | e | e
  · have := h2.2.2 x e; have := h1.2.1; omega
  · exact e
  · have := h1.2.2 y e; have := h2.2.1; omega
def EL (ops : Array Oper) (S : Nat → St) (p id : Nat) (o : AObj) : Prop := ∃ x, Born ops S id x ∧ (S (max p x)).heap.get id = some o
omit [Toks] in
theorem EL.unique {p id : Nat} {o o' : AObj} (h1 : EL ops S p id o) (h2 : EL ops S p id o') : o = o' := by
  obtain ⟨x, b1, g1⟩ := h1
  obtain ⟨y, b2, g2⟩ := h2
  rw [born_unique b2 b1, g1] at g2
  exact Option.some.inj g2
end
end Go.Proofs.Ytfbedlhigggggaa
