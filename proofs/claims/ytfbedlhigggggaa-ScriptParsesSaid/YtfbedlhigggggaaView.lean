/- What an operation's answer hangs on. -/
import Derived.Test.YtfbedlhigggggaaMono
namespace Go.Proofs.Ytfbedlhigggggaa
open Go Go.RowKit
variable [Toks]

omit [Toks] in
theorem Tr.exists_of {α : Type} (f : Nat → Option α) : ∀ n : Nat, ∃ t : Tr α, ∀ i, t.get i = if i < n then f i else none
  | 0 => ⟨.nil, fun i => by simp [Tr.get]⟩
  | n + 1 => by
    obtain ⟨t, ht⟩ := Tr.exists_of f n
    refine ⟨t.set n (f n), fun i => ?_⟩
    rw [Tr.get_set]
    by_cases e : i = n
    · subst e; simp
    · rw [if_neg e, ht]
      by_cases h2 : i < n
      · rw [if_pos h2, if_pos (by omega)]
      · rw [if_neg h2, if_neg (by omega)]
section
variable {P : Program} {h h' : AHeap} {T T' : Tr Value}
omit [Toks] in
theorem ev_congr {x : Operand} (hx : ∀ t, x = .tmp t → T.get t = T'.get t) : ev T x = ev T' x := by
  cases x with
  | tmp t => simp only [ev, hx t rfl]
  | _ => rfl
omit [Toks] in
theorem evs_congr : ∀ {l : List Operand}, (∀ x ∈ l, ev T x = ev T' x) → evs T l = evs T' l
  | [], _ => rfl
  | x :: l, hx => by
    have ih : evs T l = evs T' l := evs_congr fun y hy => hx y (by simp [hy])
    simp only [evs, hx x (by simp), ih]
omit [Toks] in
theorem evParts_congr : ∀ {l : List (Nat × Operand)}, (∀ x ∈ l.map (·.2), ev T x = ev T' x) → evParts T l = evParts T' l
  | [], _ => rfl
  | (i, x) :: l, hx => by
    simp only [evParts, hx x (by simp), evParts_congr (l := l) fun y hy => hx y (by simp only [List.map_cons, List.mem_cons]; exact .inr hy)]
omit [Toks] in
theorem evOpt_congr {x : Option Operand} (hx : ∀ y ∈ x.toArray, ev T y = ev T' y) : evOpt T x = evOpt T' x := by
  cases x with
  | none => rfl
  | some y => simp only [evOpt, hx y (by simp)]
omit [Toks] in
theorem xpure_congr (o : Oper) (hx : ∀ x ∈ o.op.operands, ev T x = ev T' x) (h : AHeap) : xpure P o T h = xpure P o T' h := by
  unfold xpure
  rw [evs_congr (T' := T') fun x hx' => hx x (by simpa using hx')]
  split
  · rename_i hns
    rw [execOp_congr (ρ := fun x => (ev T x).getD undef) (ρ' := fun x => (ev T' x).getD undef) o (fun cs b e => by rw [e] at hns; cases hns) fun x hx' => by simp only [hx x hx']]
  · rfl
omit [Toks] in
theorem xop_congr (call : XCall) (o : Oper) (hx : ∀ x ∈ o.op.operands, ev T x = ev T' x) (h : AHeap) : xop P call o T h = xop P call o T' h := by
  have hp := xpure_congr (P := P) o hx h
  obtain ⟨dst, op, type, pos, after, guard⟩ := o
  cases op <;> simp only [Op.operands] at hx <;> simp only [xop]
  case move x => rw [hx x (by simp)]
  case assign x => rw [hx x (by simp)]
  case pick c x y => rw [hx c (by simp), hx x (by simp), hx y (by simp)]
  case extract x ix => rw [hx x (by simp)]
  case nilCheck x => rw [hx x (by simp)]
  case box e x => rw [hx x (by simp)]
  case build t ps => rw [evParts_congr (T' := T') fun x hx' => hx x (by simpa using hx')]
  case buildSlice t n ps => rw [evParts_congr (T' := T') fun x hx' => hx x (by simpa using hx')]
  case load t x => rw [hx x (by simp)]
  case store t x y => rw [hx x (by simp), hx y (by simp)]
  case binOp op t x y yt => simp only [hx x (by simp), hx y (by simp), hp]
  case unOp op t x => simp only [hx x (by simp), hp]
  case convert s d x => simp only [hx x (by simp), orPure, hp]
  case makeSlice t l c => rw [hx l (by simp), hx c (by simp)]
  case slice t x lo hi mx =>
    rw [hx x (by simp), evOpt_congr (x := lo) (T' := T') fun y hy => hx y (by simp only [Array.mem_append]; exact .inl (.inl (.inr hy))), evOpt_congr (x := hi) (T' := T') fun y hy => hx y (by simp only [Array.mem_append]; exact .inl (.inr hy)),
      evOpt_congr (x := mx) (T' := T') fun y hy => hx y (by simp only [Array.mem_append]; exact .inr hy), hp]
  case fieldAddr t x f => rw [hx x (by simp)]
  case field t x f => rw [hx x (by simp)]
  case indexAddr t x i => rw [hx x (by simp), hx i (by simp)]
  case makeFunc fn f c =>
    rw [evs_congr (l := f.toList) (T' := T') fun x hx' => hx x (by simp only [Array.mem_append]; exact .inl (by simpa using hx')), evs_congr (l := c.toList) (T' := T') fun x hx' => hx x (by simp only [Array.mem_append]; exact .inr (by simpa using hx'))]
  case call c =>
    simp only [Call.operands] at hx
    have ha : evs T c.args.toList = evs T' c.args.toList := evs_congr fun x hx' => hx x (by simp only [Array.mem_append]; exact .inr (by simpa using hx'))
    cases hc : c.callee with
    | builtin b => simp only [ha, orPure, hp]
    | value f => rw [hc] at hx; simp only [ha, hx f (by simp), hp]
    | invoke r m => rfl
  case makeMap t r =>
    cases r with
    | some x => exact hp
    | none => rfl
  case range t x => rw [hx x (by simp)]
  case next x isS =>
    cases isS with
    | false => exact hp
    | true => simp only [hx x (by simp)]
  case lookup t x k ok => rw [hx x (by simp), hx k (by simp), hp]
  case mapUpdate t x k y => rw [hx x (by simp), hx k (by simp), hx y (by simp)]
  all_goals exact hp
omit [Toks] in
theorem orPure_view {r r' : Option (Value × AHeap)} {o : Oper} {v : Value} {V : AHeap} (hv : orPure P r o T h = some (v, h')) (h0 : r = none → r' = none)
    (h1 : r = some (v, h') → ∃ V', r' = some (v, V') ∧ ((h' = h ∧ V' = V) ∨ ∃ ob, h' = h.push ob ∧ V' = V.push ob)) : ∃ V', orPure P r' o T V = some (v, V') ∧ ((h' = h ∧ V' = V) ∨ ∃ ob, h' = h.push ob ∧ V' = V.push ob) := by
  unfold orPure at hv
  split at hv
  · rename_i x
    injection hv with hv
    subst hv
    obtain ⟨V', a, b⟩ := h1 rfl
    exact ⟨V', by rw [a]; rfl, b⟩
  · obtain ⟨e, g⟩ := xpure_h hv
    refine ⟨V, ?_, .inl ⟨e, rfl⟩⟩
    rw [h0 rfl]
    exact g V
omit [Toks] in
theorem aliveAt_get {V : AHeap} {i : Nat} (h : aliveAt V i = true) (hi : i < V.n) : ∃ o, V.get i = some o ∧ o.kind = 0 := by
  unfold aliveAt at h
  simp only [hi, decide_true, Bool.not_true, Bool.false_or] at h
  split at h
  · exact ⟨_, ‹_›, Nat.eq_of_beq_eq_true h⟩
  · cases h
omit [Toks] in
theorem aeql_view {V : AHeap} {t : TypeId} {x y : Value} (hv : ∀ a b, x = .pointer (some a) → y = .pointer (some b) → (∃ o, V.get a.block = some o ∧ o.kind = 0) ∧ ∃ o, V.get b.block = some o ∧ o.kind = 0) :
    (∀ r, aeql P h t x y = some r → aeql P V t x y = some r) ∧ ((∀ a b, x = .pointer (some a) → y ≠ .pointer (some b)) → aeql P h t x y = none → aeql P V t x y = none) := by
  unfold aeql
  constructor
  · intro r hr
    split at hr
    · exact hr
    · exact hr
    · rename_i e a b hu
      obtain ⟨⟨o1, g1, k1⟩, o2, g2, k2⟩ := hv a b rfl rfl
      split at hr
      · rename_i s o o' hs ho ho'
        split at hr
        · cases hr
        · rename_i hc
          simp only [Bool.or_eq_true, decide_eq_true_eq, not_or, Bool.not_eq_true] at hc
          simp only [hs, g1, g2, k1, k2, bne_self_eq_false, Bool.or_false, hc.1.1.1.1, hc.1.2, hc.2, decide_false, Bool.false_eq_true, if_false]
          exact hr
      · cases hr
    · exact hr
    · exact hr
    · exact hr
    · exact hr
    · exact hr
    · cases hr
  · intro hne hr
    split at hr
    · cases hr
    · cases hr
    · exact absurd rfl (hne _ _ rfl)
    · cases hr
    · cases hr
    · cases hr
    · cases hr
    · exact hr
    · rfl
omit [Toks] in
theorem xop_view {call : XCall} {o : Oper} {v : Value} {V : AHeap} (he : effect o.op = false) (hv : xop P call o T h = some (v, h')) (hr : readOk P o T v h.n V = true) (hn : V.n = h.n) :
    ∃ V', xop P call o T V = some (v, V') ∧ ((h' = h ∧ V' = V) ∨ ∃ ob, h' = h.push ob ∧ V' = V.push ob) := by
  have pure_ : xpure P o T h = some (v, h') → ∃ V', xpure P o T V = some (v, V') ∧ ((h' = h ∧ V' = V) ∨ ∃ ob, h' = h.push ob ∧ V' = V.push ob) := fun hv => ⟨V, (xpure_h hv).2 V, .inl ⟨(xpure_h hv).1, rfl⟩⟩
  have at_ : ∀ {x : Option Value}, atomic h x = some (v, h') → ∃ V', atomic V x = some (v, V') ∧ ((h' = h ∧ V' = V) ∨ ∃ ob, h' = h.push ob ∧ V' = V.push ob) := fun e => ⟨V, by rw [(atomic_eq e).1]; rfl, .inl ⟨(atomic_eq e).2, rfl⟩⟩
  have nw : ∀ {e : TypeId} {k es : Nat} {cells : List Value}, anew h e k es cells = (v, h') → ∃ V', anew V e k es cells = (v, V') ∧ ((h' = h ∧ V' = V) ∨ ∃ ob, h' = h.push ob ∧ V' = V.push ob) := by
    intro e k es cells he
    simp only [anew, Prod.mk.injEq] at he
    obtain ⟨rfl, rfl⟩ := he
    exact ⟨_, by simp only [anew, hn], .inr ⟨_, rfl, rfl⟩⟩
  obtain ⟨dst, op, type, pos, after, guard⟩ := o
  cases op <;> simp only [xop] at hv ⊢
  case move x => exact at_ hv
  case assign x => simp [effect] at he
  case pick c x y =>
    split at hv
    · exact at_ hv
    · cases hv
  case extract x ix =>
    split at hv
    · exact at_ hv
    · cases hv
  case nilCheck x =>
    split at hv
    · injection hv with hv; injection hv with hv1 hv2; subst hv1 hv2; exact ⟨V, rfl, .inl ⟨rfl, rfl⟩⟩
    · cases hv
  case alloc e =>
    split at hv
    · injection hv with hv
      obtain ⟨V', a, b⟩ := nw hv
      exact ⟨V', by rw [a], b⟩
    · cases hv
  case box e x =>
    simp only [Option.bind_eq_some_iff, Option.some.injEq] at hv
    obtain ⟨u, hu, cs, hcs, hv⟩ := hv
    obtain ⟨V', a, b⟩ := nw hv
    exact ⟨V', by simp only [hu, hcs, Option.bind_some, a], b⟩
  case build t ps =>
    simp only [Option.bind_eq_some_iff] at hv
    obtain ⟨l, hl, hv⟩ := hv
    simp only [hl, Option.bind_some]
    exact at_ hv
  case buildSlice t n ps =>
    simp only [Option.bind_eq_some_iff] at hv
    obtain ⟨l, hl, hv⟩ := hv
    simp only [hl, Option.bind_some]
    unfold abuildSlice at hv ⊢
    split at hv
    · rename_i e hu
      try simp only [hu]
      split at hv
      · rename_i sz z hs hz
        try simp only [hs, hz]
        split at hv
        · cases hv
        · rename_i hc
          rw [if_neg hc]
          split at hv
          · rename_i cells hf
            injection hv with hv
            injection hv with hv1 hv2
            subst hv1 hv2
            simp only [hn]
            exact ⟨_, rfl, .inr ⟨_, rfl, rfl⟩⟩
          · cases hv
      · cases hv
    · cases hv
  case load t x =>
    split at hv
    · rename_i ad hx
      obtain ⟨h1, rfl⟩ := atomic_eq hv
      simp only [readOk, hx, Bool.and_eq_true, decide_eq_true_eq] at hr
      obtain ⟨r1, r2⟩ := hr
      have r3 : ad.block < V.n := by omega
      simp only [r3, decide_true, Bool.not_true, Bool.false_or] at r2
      split at r2
      · rename_i u hu
        have := beqI1_eq r2
        subst this
        exact ⟨V, by rw [hu]; rfl, .inl ⟨rfl, rfl⟩⟩
      · cases r2
    · cases hv
  case store t x y => simp [effect] at he
  case unOp op t x =>
    split at hv
    · rename_i r hr'
      injection hv with hv
      injection hv with hv1 hv2
      subst hv1 hv2
      exact ⟨V, rfl, .inl ⟨rfl, rfl⟩⟩
    · exact pure_ hv
  case binOp op t x y yt =>
    split at hv
    · rename_i u1 u2 hx hy
      split at hv
      · rename_i r hr
        injection hv with hv
        injection hv with hv1 hv2
        subst hv1 hv2
        exact ⟨V, rfl, .inl ⟨rfl, rfl⟩⟩
      · rename_i hfn
        have hag : ∀ a b, u1 = .pointer (some a) → u2 = .pointer (some b) → (∃ o, V.get a.block = some o ∧ o.kind = 0) ∧ ∃ o, V.get b.block = some o ∧ o.kind = 0 := by
          rintro a b rfl rfl
          simp only [readOk, hx, hy, Bool.and_eq_true, decide_eq_true_eq] at hr
          obtain ⟨⟨⟨r1, r2⟩, r3⟩, r4⟩ := hr
          exact ⟨aliveAt_get r3 (by omega), aliveAt_get r4 (by omega)⟩
        obtain ⟨g1, g2⟩ := aeql_view (P := P) (h := h) (t := t) hag
        cases op <;> simp only at hv ⊢
        case eql =>
          split at hv
          · rename_i r hq
            injection hv with hv
            injection hv with hv1 hv2
            subst hv1 hv2
            rw [g1 r hq]
            exact ⟨V, rfl, .inl ⟨rfl, rfl⟩⟩
          · rename_i hnone
            have hnp : ∀ a b, u1 = .pointer (some a) → u2 ≠ .pointer (some b) := by
              rintro a b rfl rfl
              unfold xpure at hv
              simp [Op.operands, evs, hx, hy, flat2, flat1, flat0] at hv
            rw [g2 hnp hnone]
            exact pure_ hv
        case neq =>
          split at hv
          · rename_i r hq
            injection hv with hv
            injection hv with hv1 hv2
            subst hv1 hv2
            rw [g1 r hq]
            exact ⟨V, rfl, .inl ⟨rfl, rfl⟩⟩
          · rename_i hnone
            have hnp : ∀ a b, u1 = .pointer (some a) → u2 ≠ .pointer (some b) := by
              rintro a b rfl rfl
              unfold xpure at hv
              simp [Op.operands, evs, hx, hy, flat2, flat1, flat0] at hv
            rw [g2 hnp hnone]
            exact pure_ hv
        all_goals exact pure_ hv
    · cases hv
  case convert s d x =>
    simp only [Option.bind_eq_some_iff] at hv
    obtain ⟨u, hu, hv⟩ := hv
    simp only [hu, Option.bind_some]
    split at hv
    · injection hv with hv
      injection hv with hv1 hv2
      subst hv1 hv2
      exact ⟨V, rfl, .inl ⟨rfl, rfl⟩⟩
    by_cases hsl : ∃ a m c, u = .slice (some a) m c
    · obtain ⟨ad, m, c, rfl⟩ := hsl
      simp only [readOk, hu, Bool.and_eq_true, decide_eq_true_eq] at hr
      obtain ⟨r1, r2⟩ := hr
      have r3 : ad.block < V.n := by omega
      simp only [r3, decide_true, Bool.not_true, Bool.false_or] at r2
      split at r2
      · rename_i q hq
        have hb := beq0_eq r2
        have hsame : ∀ (H : AHeap) (r : Value × AHeap), aconvert P s d (.slice (some ad) m c) H = some r → r.2 = H := by
          intro H r hr
          unfold aconvert at hr
          split at hr
          · split at hr
            · split at hr
              · injection hr with hr; subst hr; rfl
              · split at hr
                · simp only [Option.bind_eq_some_iff, Option.some.injEq] at hr
                  obtain ⟨_, _, _, _, rfl⟩ := hr
                  rfl
                · cases hr
            · cases hr
          · rename_i e; cases e
          · cases hr
        have hq2 := hsame _ _ hq
        obtain ⟨q1, q2⟩ := q
        simp only at hb hq2
        subst hb hq2
        refine ⟨q2, by rw [hq]; rfl, .inl ⟨?_, rfl⟩⟩
        unfold orPure at hv
        split at hv
        · rename_i y hy
          injection hv with hv
          subst hv
          exact hsame _ _ hy
        · exact (xpure_h hv).1
      · cases r2
    · refine orPure_view hv ?_ ?_
      · intro h0
        unfold aconvert at h0 ⊢
        split at h0
        · rename_i a _ _ _ _; exact absurd ⟨_, _, _, rfl⟩ hsl
        · rename_i e q hus hud
          split at h0
          · rename_i hue
            split at h0
            · rename_i hc; rw [if_pos hc]
            · cases h0
          · rfl
        · rfl
      · intro h0
        unfold aconvert at h0 ⊢
        split at h0
        · exact absurd ⟨_, _, _, rfl⟩ hsl
        · rename_i e q hus hud
          split at h0
          · rename_i hue
            split at h0
            · cases h0
            · rename_i hc
              injection h0 with h0
              injection h0 with h1 h2
              subst h1 h2
              rw [if_neg hc]
              simp only [hn]
              exact ⟨_, rfl, .inr ⟨_, rfl, rfl⟩⟩
          · cases h0
        · cases h0
  case makeSlice t l c =>
    split at hv
    · rename_i u1 u2 h1 h2
      unfold amakeSlice at hv ⊢
      split at hv
      · rename_i e k l k' c hu
        try simp only [hu]
        split at hv
        · rename_i i z hi hz
          try simp only [hi, hz]
          split at hv
          · rename_i hc
            rw [if_pos hc]
            injection hv with hv
            injection hv with hv1 hv2
            subst hv1 hv2
            simp only [hn]
            exact ⟨_, rfl, .inr ⟨_, rfl, rfl⟩⟩
          · cases hv
        · cases hv
      · cases hv
    · cases hv
  case slice t x lo hi mx =>
    split at hv
    · simp only [Option.bind_eq_some_iff] at hv
      obtain ⟨l1, h1, l2, h2, l3, h3, hv⟩ := hv
      simp only [h1, h2, h3, Option.bind_some]
      exact at_ hv
    · exact pure_ hv
  case fieldAddr t x f =>
    simp only [Option.bind_eq_some_iff] at hv
    obtain ⟨u, hu, hv⟩ := hv
    simp only [hu, Option.bind_some]
    exact at_ hv
  case field t x f =>
    simp only [Option.bind_eq_some_iff] at hv
    obtain ⟨u, hu, hv⟩ := hv
    simp only [hu, Option.bind_some]
    exact at_ hv
  case indexAddr t x i =>
    split at hv
    · exact at_ hv
    · cases hv
  case makeFunc fn f c =>
    simp only [Option.bind_eq_some_iff] at hv
    obtain ⟨l1, h1, l2, h2, hv⟩ := hv
    simp only [h1, h2, Option.bind_some]
    split at hv
    · rename_i hb
      injection hv with hv; injection hv with hv1 hv2; subst hv1 hv2
      rw [if_pos hb]
      exact ⟨V, rfl, .inl ⟨rfl, rfl⟩⟩
    · cases hv
  case call c =>
    obtain ⟨callee, args, argTypes⟩ := c
    cases callee with
    | value f => simp [effect] at he
    | invoke r m => simp [effect] at he
    | builtin b =>
      simp only [Option.bind_eq_some_iff] at hv ⊢
      obtain ⟨vs, hvs, hv⟩ := hv
      by_cases hlen : b = .len ∧ ∃ r, vs = [.map (some r)]
      · obtain ⟨rfl, r, rfl⟩ := hlen
        have hx : ∀ H, xbuiltin P .len argTypes [.map (some r)] H = xlen P argTypes (.map (some r)) H := fun _ => rfl
        rw [hx] at hv
        simp only [readOk, hvs, Bool.and_eq_true, decide_eq_true_eq] at hr
        obtain ⟨r1, r2⟩ := hr
        have r3 : r < V.n := by omega
        simp only [r3, decide_true, Bool.not_true, Bool.false_or] at r2
        have same : ∀ {H : AHeap} {q : Value × AHeap}, xlen P argTypes (.map (some r)) H = some q → q.2 = H := by
          intro H q hq
          unfold xlen at hq
          split at hq
          · simp only [Option.bind_eq_some_iff, Option.some.injEq] at hq
            obtain ⟨_, _, rfl⟩ := hq
            rfl
          · cases hq
        split at r2
        · rename_i q hq
          have e1 := beq0_eq r2
          have e2 := same hq
          obtain ⟨q1, q2⟩ := q
          simp only at e1 e2
          subst e1 e2
          refine ⟨q2, ⟨_, hvs, by rw [hx, hq]; rfl⟩, .inl ⟨?_, rfl⟩⟩
          unfold orPure at hv
          split at hv
          · rename_i y hy
            injection hv with hv
            subst hv
            exact same hy
          · exact (xpure_h hv).1
        · cases r2
      have hb2 : ∀ H, xbuiltin2 P b argTypes vs H = none := by
        intro H
        cases b <;> simp only [xbuiltin2]
        case clear => simp [effect] at he
        case delete => simp [effect] at he
        case len =>
          split
          · unfold xlen
            split
            · exact absurd ⟨rfl, _, rfl⟩ hlen
            · rfl
          · rfl
      have hb : ∀ H H' : AHeap, (∀ q, xbuiltin P b argTypes vs H = some q → q.2 = H) ∧ (∀ x, xbuiltin P b argTypes vs H = some (x, H) → xbuiltin P b argTypes vs H' = some (x, H')) ∧ (xbuiltin P b argTypes vs H = none → xbuiltin P b argTypes vs H' = none) := by
        intro H H'
        unfold xbuiltin
        split
        · simp [effect] at he
        · simp [effect] at he
        · split
          · exact ⟨(by rintro q hq; injection hq with hq; subst hq; rfl), (by rintro x hx; injection hx with hx; injection hx with hx; subst hx; rfl), (by intro hh; cases hh)⟩
          · exact ⟨(fun _ hq => nomatch hq), (fun _ hx => nomatch hx), fun _ => rfl⟩
        · split
          · split
            · exact ⟨(fun _ hq => nomatch hq), (fun _ hx => nomatch hx), fun _ => rfl⟩
            · exact ⟨(by rintro q hq; injection hq with hq; subst hq; rfl), (by rintro x hx; injection hx with hx; injection hx with hx; subst hx; rfl), (by intro hh; cases hh)⟩
          · exact ⟨(fun _ hq => nomatch hq), (fun _ hx => nomatch hx), fun _ => rfl⟩
        · unfold pickB
          split
          · exact ⟨(by rintro q hq; injection hq with hq; subst hq; rfl), (by rintro x hx; injection hx with hx; injection hx with hx; subst hx; rfl), (by intro hh; cases hh)⟩
          · exact ⟨(fun _ hq => nomatch hq), (fun _ hx => nomatch hx), fun _ => rfl⟩
        · unfold pickB
          split
          · exact ⟨(by rintro q hq; injection hq with hq; subst hq; rfl), (by rintro x hx; injection hx with hx; injection hx with hx; subst hx; rfl), (by intro hh; cases hh)⟩
          · exact ⟨(fun _ hq => nomatch hq), (fun _ hx => nomatch hx), fun _ => rfl⟩
        · unfold pickB
          split
          · exact ⟨(by rintro q hq; injection hq with hq; subst hq; rfl), (by rintro x hx; injection hx with hx; injection hx with hx; subst hx; rfl), (by intro hh; cases hh)⟩
          · exact ⟨(fun _ hq => nomatch hq), (fun _ hx => nomatch hx), fun _ => rfl⟩
        · simp only [hb2]
          exact ⟨(fun _ hq => nomatch hq), (fun _ hx => nomatch hx), fun _ => trivial⟩
      obtain ⟨V', a1, a2⟩ := orPure_view (V := V) (r' := xbuiltin P b argTypes vs V) hv (hb h V).2.2 (fun h0 => by
        have e := (hb h V).1 _ h0
        simp only at e
        subst e
        exact ⟨V, (hb _ V).2.1 _ h0, .inl ⟨rfl, rfl⟩⟩)
      exact ⟨V', ⟨vs, hvs, a1⟩, a2⟩
  case makeMap t r =>
    cases r with
    | some x => exact pure_ hv
    | none =>
      simp only [Option.some.injEq, Prod.mk.injEq] at hv
      obtain ⟨rfl, rfl⟩ := hv
      exact ⟨_, by rw [hn], .inr ⟨_, rfl, rfl⟩⟩
  case range t x =>
    split at hv
    · rename_i b hu hx
      simp only [Option.some.injEq, Prod.mk.injEq] at hv
      obtain ⟨rfl, rfl⟩ := hv
      exact ⟨_, by rw [hn], .inr ⟨_, rfl, rfl⟩⟩
    · cases hv
  case next x isS => simp [effect] at he
  case lookup t x k ok =>
    split at hv
    · rename_i r u hx hk
      obtain ⟨h1, rfl⟩ := atomic_eq hv
      simp only [readOk, hx, hk, Bool.and_eq_true, decide_eq_true_eq] at hr
      obtain ⟨r1, r2⟩ := hr
      have r3 : r < V.n := by omega
      simp only [r3, decide_true, Bool.not_true, Bool.false_or] at r2
      split at r2
      · rename_i q hq
        have := beq2_eq r2
        subst this
        exact ⟨V, by rw [hq]; rfl, .inl ⟨rfl, rfl⟩⟩
      · cases r2
    · exact pure_ hv
  case mapUpdate t x k y => simp [effect] at he
  all_goals exact pure_ hv
end
end Go.Proofs.Ytfbedlhigggggaa
