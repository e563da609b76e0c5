/- Abstract memory only grows. -/
import Derived.Test.YtfbedlhigggggaaOp
namespace Go.Proofs.Ytfbedlhigggggaa
open Go Go.RowKit
variable [Toks]

def CallMono (call : XCall) : Prop := ∀ (f : FuncId) (args : List Value) (h : AHeap) (v : Value) (h' : AHeap), call f args h = some (v, h') → h.n ≤ h'.n
section
variable {P : Program} {h h' : AHeap} {T : Tr Value}
omit [Toks] in
theorem astore_n {i off : Nat} {vs : List Value} (hs : astore h i off vs = some h') : h'.n = h.n := by
  unfold astore at hs
  split at hs
  · split at hs
    · cases hs
    · injection hs with hs; subst hs; rfl
  · cases hs
omit [Toks] in
theorem agrow_n {e : TypeId} {k es need : Nat} {cells : List Value} {v : Value} (hv : agrow h e k es need cells = some (v, h')) : h'.n = h.n + 1 := by
  simp only [agrow, Option.some.injEq, Prod.mk.injEq] at hv
  rw [← hv.2]; rfl
omit [Toks] in
theorem aappendTo_n {e : TypeId} {i : TypeInfo} {base : Option Addr} {n c m : Nat} {new : List Value} {v : Value} (hv : aappendTo e i base n c m new h = some (v, h')) : h.n ≤ h'.n := by
  unfold aappendTo at hv
  split at hv
  · split at hv
    · simp only [Option.bind_eq_some_iff, Option.some.injEq, Prod.mk.injEq] at hv
      obtain ⟨h2, hst, _, rfl⟩ := hv
      rw [astore_n hst]; exact Nat.le_refl _
    · split at hv
      · injection hv with hv; injection hv with _ hv; subst hv; exact Nat.le_refl _
      · cases hv
  · split at hv
    · split at hv
      · rw [agrow_n hv]; omega
      · cases hv
    · split at hv
      · simp only [Option.bind_eq_some_iff] at hv
        obtain ⟨old, _, hv⟩ := hv
        split at hv
        · cases hv
        · rw [agrow_n hv]; omega
      · split at hv
        · split at hv
          · split at hv
            · cases hv
            · simp only [Option.bind_eq_some_iff] at hv
              obtain ⟨old, _, hv⟩ := hv
              split at hv
              · cases hv
              · rw [agrow_n hv]; simp only [AHeap.put]; omega
          · cases hv
        · cases hv
omit [Toks] in
theorem aappend_n {types : Array TypeId} {s x v : Value} (hv : aappend P types s x h = some (v, h')) : h.n ≤ h'.n := by
  unfold aappend at hv
  split at hv
  · split at hv
    · split at hv
      · split at hv
        · cases hv
        · exact aappendTo_n hv
      · cases hv
    · split at hv
      · simp only [Option.bind_eq_some_iff] at hv
        obtain ⟨_, _, hv⟩ := hv
        split at hv
        · cases hv
        · exact aappendTo_n hv
      · cases hv
    · cases hv
  · cases hv
omit [Toks] in
theorem aclear_n {types : Array TypeId} {d v : Value} (hv : aclear P types d h = some (v, h')) : h'.n = h.n := by
  unfold aclear at hv
  split at hv
  · split at hv
    · split at hv
      · split at hv
        · cases hv
        · simp only [Option.bind_eq_some_iff, Option.some.injEq, Prod.mk.injEq] at hv
          obtain ⟨h2, hst, _, rfl⟩ := hv
          exact astore_n hst
      · split at hv
        · injection hv with hv; injection hv with _ hv; subst hv; rfl
        · cases hv
      · cases hv
    · cases hv
  · cases hv
omit [Toks] in
theorem amapUpdate_n {t : TypeId} {r : Nat} {k v : Value} (hv : amapUpdate P h t r k v = some h') : h'.n = h.n := by
  unfold amapUpdate at hv
  simp only [Option.bind_eq_some_iff] at hv
  obtain ⟨⟨o, kt, et⟩, _, hv⟩ := hv
  simp only at hv
  split at hv
  · simp only [Option.bind_eq_some_iff] at hv
    obtain ⟨r, _, hv⟩ := hv
    cases r <;> (simp only [Option.some.injEq] at hv; subst hv; rfl)
  · cases hv
omit [Toks] in
theorem amapDelete_n {t : TypeId} {r : Nat} {k : Value} (hv : amapDelete P h t r k = some h') : h'.n = h.n := by
  unfold amapDelete at hv
  simp only [Option.bind_eq_some_iff] at hv
  obtain ⟨⟨o, kt, et⟩, _, hv⟩ := hv
  simp only at hv
  split at hv
  · simp only [Option.bind_eq_some_iff] at hv
    obtain ⟨r, _, hv⟩ := hv
    cases r <;> (simp only [Option.some.injEq] at hv; subst hv; rfl)
  · cases hv
omit [Toks] in
theorem anext_n {a : Addr} {v : Value} (hv : anext h a = some (v, h')) : h'.n = h.n := by
  unfold anext at hv
  split at hv
  · split at hv
    · split at hv <;> (simp only [Option.some.injEq, Prod.mk.injEq] at hv; rw [← hv.2]; try rfl)
    · cases hv
  · cases hv
omit [Toks] in
theorem xbuiltin2_n {b : Builtin} {types : Array TypeId} {args : List Value} {v : Value} (hv : xbuiltin2 P b types args h = some (v, h')) : h.n ≤ h'.n := by
  unfold xbuiltin2 at hv
  split at hv
  · split at hv
    · exact Nat.le_of_eq (aclear_n hv).symm
    · cases hv
  · split at hv
    · unfold xlen at hv
      split at hv
      · simp only [Option.bind_eq_some_iff, Option.some.injEq, Prod.mk.injEq] at hv
        obtain ⟨_, _, _, rfl⟩ := hv
        exact Nat.le_refl _
      · cases hv
    · cases hv
  · split at hv
    · unfold xdelete at hv
      split at hv
      · simp only [Option.bind_eq_some_iff, Option.some.injEq, Prod.mk.injEq] at hv
        obtain ⟨h2, hd, _, rfl⟩ := hv
        exact Nat.le_of_eq (amapDelete_n hd).symm
      · cases hv
    · cases hv
  · cases hv
omit [Toks] in
theorem acopy_n {types : Array TypeId} {s x v : Value} (hv : acopy P types s x h = some (v, h')) : h.n ≤ h'.n := by
  unfold acopy at hv
  split at hv
  · split at hv
    · simp only [Option.bind_eq_some_iff] at hv
      obtain ⟨size, _, cells, _, hv⟩ := hv
      split at hv
      · split at hv
        · injection hv with hv; injection hv with _ hv; subst hv; exact Nat.le_refl _
        · simp only [Option.bind_eq_some_iff, Option.some.injEq, Prod.mk.injEq] at hv
          obtain ⟨h2, hst, _, rfl⟩ := hv
          rw [astore_n hst]; exact Nat.le_refl _
      · injection hv with hv; injection hv with _ hv; subst hv; exact Nat.le_refl _
    · cases hv
  · cases hv
omit [Toks] in
theorem aconvert_n {src dst : TypeId} {x v : Value} (hv : aconvert P src dst x h = some (v, h')) : h.n ≤ h'.n := by
  unfold aconvert at hv
  split at hv
  · split at hv
    · split at hv
      · injection hv with hv; injection hv with _ hv; subst hv; exact Nat.le_refl _
      · split at hv
        · simp only [Option.bind_eq_some_iff, Option.some.injEq, Prod.mk.injEq] at hv
          obtain ⟨_, _, _, _, _, rfl⟩ := hv
          exact Nat.le_refl _
        · cases hv
    · cases hv
  · split at hv
    · split at hv
      · cases hv
      · injection hv with hv; injection hv with _ hv; subst hv; exact Nat.le_succ _
    · cases hv
  · cases hv
omit [Toks] in
theorem xpure_h {o : Oper} {v : Value} (hv : xpure P o T h = some (v, h')) : h' = h ∧ ∀ V, xpure P o T V = some (v, V) := by
  unfold xpure at hv
  split at hv
  · rename_i hns
    simp only [Option.bind_eq_some_iff] at hv
    obtain ⟨vs, hvs, hv⟩ := hv
    split at hv
    · rename_i hall
      simp only [Option.bind_eq_some_iff] at hv
      obtain ⟨nx, hnx, u, hu, hv⟩ := hv
      split at hv
      · rename_i hfl
        injection hv with hv
        injection hv with hv1 hv2
        subst hv1 hv2
        refine ⟨rfl, fun V => ?_⟩
        unfold xpure
        simp only [hns, hvs, hall, hnx, hu, hfl, if_true, Option.bind_some]
      · cases hv
    · cases hv
  · cases hv
omit [Toks] in
theorem orPure_n {r : Option (Value × AHeap)} {o : Oper} {v : Value} (hv : orPure P r o T h = some (v, h')) (h1 : ∀ v h', r = some (v, h') → h.n ≤ h'.n) : h.n ≤ h'.n := by
  unfold orPure at hv
  split at hv
  · injection hv with hv; subst hv; exact h1 _ _ rfl
  · rw [(xpure_h hv).1]; exact Nat.le_refl _
omit [Toks] in
theorem xop_n {call : XCall} (hc : CallMono call) {o : Oper} {v : Value} (hv : xop P call o T h = some (v, h')) : h.n ≤ h'.n := by
  have pure_ : xpure P o T h = some (v, h') → h.n ≤ h'.n := fun hv => by rw [(xpure_h hv).1]; exact Nat.le_refl _
  have at_ : ∀ {x : Option Value}, atomic h x = some (v, h') → h.n ≤ h'.n := fun e => by rw [(atomic_eq e).2]; exact Nat.le_refl _
  have nw : ∀ {e : TypeId} {k es : Nat} {cells : List Value}, anew h e k es cells = (v, h') → h.n ≤ h'.n := fun e => by have := congrArg (fun q => q.2.n) e; simp only [anew, AHeap.push] at this; omega
  obtain ⟨dst, op, type, pos, after, guard⟩ := o
  cases op <;> simp only [xop] at hv
  case move x => exact at_ hv
  case assign x => exact at_ hv
  case pick c x y => split at hv; exact at_ hv; cases hv
  case extract x ix => split at hv; exact at_ hv; cases hv
  case nilCheck x =>
    split at hv
    · injection hv with hv; injection hv with _ hv; subst hv; exact Nat.le_refl _
    · cases hv
  case alloc e =>
    split at hv
    · injection hv with hv; exact nw hv
    · cases hv
  case box e x =>
    simp only [Option.bind_eq_some_iff, Option.some.injEq] at hv
    obtain ⟨u, hu, cs, hcs, hv⟩ := hv
    exact nw hv
  case build t ps =>
    simp only [Option.bind_eq_some_iff] at hv
    obtain ⟨l, hl, hv⟩ := hv
    exact at_ hv
  case buildSlice t n ps =>
    simp only [Option.bind_eq_some_iff] at hv
    obtain ⟨l, hl, hv⟩ := hv
    have := abuildSlice_n hv; omega
  case load t x => split at hv; exact at_ hv; cases hv
  case store t x y =>
    split at hv
    · simp only [Option.bind_eq_some_iff] at hv
      obtain ⟨cs, hcs, hv⟩ := hv
      split at hv
      · cases hv
      · simp only [Option.bind_eq_some_iff, Option.some.injEq, Prod.mk.injEq] at hv
        obtain ⟨h2, hst, _, rfl⟩ := hv
        rw [astore_n hst]; exact Nat.le_refl _
    · cases hv
  case unOp op t x =>
    split at hv
    · injection hv with hv; injection hv with _ hv; subst hv; exact Nat.le_refl _
    · exact pure_ hv
  case binOp op t x y yt =>
    split at hv
    · split at hv
      · injection hv with hv; injection hv with _ hv; subst hv; exact Nat.le_refl _
      · cases op <;> simp only at hv
        case eql =>
          split at hv
          · injection hv with hv; injection hv with _ hv; subst hv; exact Nat.le_refl _
          · exact pure_ hv
        case neq =>
          split at hv
          · injection hv with hv; injection hv with _ hv; subst hv; exact Nat.le_refl _
          · exact pure_ hv
        all_goals exact pure_ hv
    · cases hv
  case convert src d x =>
    simp only [Option.bind_eq_some_iff] at hv
    obtain ⟨u, hu, hv⟩ := hv
    split at hv
    · injection hv with hv; injection hv with _ hv; subst hv; exact Nat.le_refl _
    · exact orPure_n hv fun _ _ h1 => aconvert_n h1
  case makeSlice t l c =>
    split at hv
    · have := amakeSlice_n hv; omega
    · cases hv
  case slice t x lo hi mx =>
    split at hv
    · simp only [Option.bind_eq_some_iff] at hv
      obtain ⟨l1, h1, l2, h2, l3, h3, hv⟩ := hv
      exact at_ hv
    · exact pure_ hv
  case fieldAddr t x f =>
    simp only [Option.bind_eq_some_iff] at hv
    obtain ⟨u, hu, hv⟩ := hv
    exact at_ hv
  case field t x f =>
    simp only [Option.bind_eq_some_iff] at hv
    obtain ⟨u, hu, hv⟩ := hv
    exact at_ hv
  case indexAddr t x i => split at hv; exact at_ hv; cases hv
  case makeFunc fn f c =>
    simp only [Option.bind_eq_some_iff] at hv
    obtain ⟨l1, h1, l2, h2, hv⟩ := hv
    split at hv
    · injection hv with hv; injection hv with _ hv; subst hv; exact Nat.le_refl _
    · cases hv
  case call c =>
    split at hv
    · simp only [Option.bind_eq_some_iff] at hv
      obtain ⟨vs, hvs, hv⟩ := hv
      refine orPure_n hv fun v2 h2 h1 => ?_
      unfold xbuiltin at h1
      split at h1
      · exact aappend_n h1
      · exact acopy_n h1
      · split at h1
        · injection h1 with h1; injection h1 with _ h1; subst h1; exact Nat.le_refl _
        · cases h1
      · split at h1
        · split at h1
          · cases h1
          · injection h1 with h1; injection h1 with _ h1; subst h1; exact Nat.le_refl _
        · cases h1
      · unfold pickB at h1
        split at h1
        · injection h1 with h1; injection h1 with _ h1; subst h1; exact Nat.le_refl _
        · cases h1
      · unfold pickB at h1
        split at h1
        · injection h1 with h1; injection h1 with _ h1; subst h1; exact Nat.le_refl _
        · cases h1
      · unfold pickB at h1
        split at h1
        · injection h1 with h1; injection h1 with _ h1; subst h1; exact Nat.le_refl _
        · cases h1
      · exact xbuiltin2_n h1
    · split at hv
      · simp only [Option.bind_eq_some_iff] at hv
        obtain ⟨vs, hvs, hv⟩ := hv
        split at hv
        · exact pure_ hv
        · exact hc _ _ _ _ _ hv
      · cases hv
    · cases hv
  case makeMap t r =>
    cases r with
    | some x => exact pure_ hv
    | none =>
      simp only [Option.some.injEq, Prod.mk.injEq] at hv
      rw [← hv.2]; exact Nat.le_succ _
  case range t x =>
    split at hv
    · simp only [Option.some.injEq, Prod.mk.injEq] at hv
      rw [← hv.2]; exact Nat.le_succ _
    · cases hv
  case next x isS =>
    cases isS with
    | false => exact pure_ hv
    | true =>
      simp only at hv
      split at hv
      · exact Nat.le_of_eq (anext_n hv).symm
      · cases hv
  case lookup t x k ok =>
    split at hv
    · exact at_ hv
    · exact pure_ hv
  case mapUpdate t x k y =>
    split at hv
    · simp only [Option.bind_eq_some_iff, Option.some.injEq, Prod.mk.injEq] at hv
      obtain ⟨h2, hst, _, rfl⟩ := hv
      exact Nat.le_of_eq (amapUpdate_n hst).symm
    · cases hv
  all_goals exact pure_ hv
omit [Toks] in
theorem putX_n {st st' : St} {dst : Option Tmp} {v : Value} (hp : putX st dst v h = some st') : st'.heap = h ∧ st'.nt = st.nt := by
  cases dst with
  | none => simp only [putX, Option.some.injEq] at hp; subst hp; exact ⟨rfl, rfl⟩
  | some d =>
    simp only [putX] at hp
    split at hp
    · injection hp with hp; subst hp; exact ⟨rfl, rfl⟩
    · cases hp
omit [Toks] in
theorem xstep_n {call : XCall} (hc : CallMono call) {ops : Array Oper} {o : Oper} {st st' : St} (hx : xstep P call ops o st = some st') : st.heap.n ≤ st'.heap.n := by
  unfold xstep at hx
  split at hx
  · simp only [Option.bind_eq_some_iff] at hx
    obtain ⟨⟨v, h'⟩, hv, hp⟩ := hx
    rw [(putX_n hp).1]
    exact xop_n hc hv
  · rw [(putX_n hx).1]
    exact Nat.le_refl _
omit [Toks] in
theorem xops_n {call : XCall} (hc : CallMono call) {ops : Array Oper} : ∀ {l : List Oper} {st st' : St}, xops P call ops l st = some st' → st.heap.n ≤ st'.heap.n
  | [], st, st', h => by simp only [xops, Option.some.injEq] at h; subst h; exact Nat.le_refl _
  | o :: l, st, st', h => by
    simp only [xops] at h
    split at h
    · rename_i st1 h1
      exact Nat.le_trans (xstep_n hc h1) (xops_n hc h)
    · cases h
end
end Go.Proofs.Ytfbedlhigggggaa
