/- Whole functions, abstract and real side by side. -/
import Derived.Test.YtfbedlhigggggaaAny
namespace Go.Proofs.Ytfbedlhigggggaa
open Go Go.RowKit
variable [Toks]

def exitOf : XExit → Exit
  | .normal => .normal
  | .ret => .ret
  | .exit id => .exit id
  | .goto l => .goto l
def Task.wp (P : Program) (Q : Exit → Act → World → Prop) : Task → Act → World → Prop
  | .code c, a, w => c.wp P Q a w
  | .within c rest, a, w => ∀ (b : Frame) (k : List Item) (cs : List Frame), ∃ e a' w', Q e a' w' ∧ Arrives P (lone (b.at a (.code rest :: .inScope c :: k)) cs w) b k cs e a' w'
  | .looping c, a, w => ∀ (b : Frame) (k : List Item) (cs : List Frame), ∃ e a' w', Q e a' w' ∧ Arrives P (lone (b.at a (.code c :: .inLoop c :: k)) cs w) b k cs e a' w'
section
variable {P : Program}
omit [Toks] in
theorem mapM_run {α : Type} {f : α → Sem Value} {w : World} {R : α → Value → Prop} : ∀ {l : List α}, (∀ x ∈ l, ∃ v, (f x).run P w = .ok v w ∧ R x v) → ∃ vs, (l.mapM f).run P w = .ok vs w ∧ LR R l vs
  | [], _ => ⟨[], by simp [List.mapM_nil, Sem.run_pure], .nil⟩
  | x :: l, h => by
    obtain ⟨v, h1, h2⟩ := h x (by simp)
    obtain ⟨vs, g1, g2⟩ := mapM_run (l := l) fun y hy => h y (by simp [hy])
    exact ⟨v :: vs, by simp only [List.mapM_cons, Sem.run_bind, h1, g1, Result.andThen_ok, Sem.run_pure], .cons h2 g2⟩
def resOf (tmps : Array Value) : ResultVar → Sem Value
  | .tmp t => pure (tmps.getD t undef)
  | .cell ad t => do loadVar t (← asAddr (tmps.getD ad undef))
omit [Toks] in
theorem results_eq (fn : Func) (tmps : Array Value) : results fn tmps = (do let vs ← fn.results.mapM (resOf tmps); pure (if h : vs.size = 1 then vs[0] else .tuple vs)) := by
  have : (resOf tmps) = (fun x => match x with | .tmp t => (pure (tmps.getD t undef) : Sem Value) | .cell ad t => do loadVar t (← asAddr (tmps.getD ad undef))) := by
    funext x
    cases x <;> rfl
  rw [this]
  rfl
theorem resV_ok {M : Nat} {ρ : Ren} {st : St} {a : Act} {w : World} (hs : SR M ρ st a w) : ∀ {rs : List ResultVar} {vs : List Value}, resV P st rs = some vs →
    ∃ vs', (rs.mapM (resOf a.tmps)).run P w = .ok vs' w ∧ LR (VR ρ) vs vs'
  | [], _, h => by simp only [resV, Option.some.injEq] at h; subst h; exact ⟨[], by simp [List.mapM_nil, Sem.run_pure], .nil⟩
  | .tmp t :: rs, _, h => by
    simp only [resV, Option.bind_eq_some_iff, Option.some.injEq] at h
    obtain ⟨l, h1, rfl⟩ := h
    obtain ⟨vs', g1, g2⟩ := resV_ok hs h1
    exact ⟨_ :: vs', by simp only [List.mapM_cons, resOf, Sem.run_bind, Sem.run_pure, Result.andThen_ok, g1], .cons (hs.tr t) g2⟩
  | .cell ad t :: rs, _, h => by
    simp only [resV] at h
    split at h
    · rename_i p hp
      simp only [Option.bind_eq_some_iff, Option.some.injEq] at h
      obtain ⟨v, hv, l, h1, rfl⟩ := h
      obtain ⟨vs', g1, g2⟩ := resV_ok hs h1
      have hpt := hs.tr ad
      rw [hp, Option.getD_some] at hpt
      obtain ⟨_, lc, hl, e⟩ := hpt.ptr
      obtain ⟨v', r1, r2⟩ := load_ok (P := P) hs.sim hv hl
      refine ⟨v' :: vs', ?_, .cons (VR.of1 r2) g2⟩
      simp only [List.mapM_cons, resOf, Sem.run_bind, e, asAddr, Sem.run_pure, Result.andThen_ok, r1, g1]
    · cases h
theorem resX_ok {M : Nat} {ρ : Ren} {st : St} {a : Act} {w : World} (hs : SR M ρ st a w) {fn : Func} {v : Value} (h : resX P st fn.results = some v) : ∃ v', (results fn a.tmps).run P w = .ok v' w ∧ VR ρ v v' := by
  simp only [resX, Option.bind_eq_some_iff] at h
  obtain ⟨l, hl, h⟩ := h
  obtain ⟨vs', g1, g2⟩ := resV_ok hs hl
  have hm : (results fn a.tmps).run P w = .ok (if h : vs'.toArray.size = 1 then vs'.toArray[0] else .tuple vs'.toArray) w := by
    rw [results_eq]
    simp only [Array.mapM_eq_mapM_toList, Sem.run_bind, Sem.run_map, g1, Result.andThen_ok, Sem.run_pure]
  refine ⟨_, hm, ?_⟩
  split at h
  · rename_i v1
    injection h with h
    subst h
    cases g2 with
    | cons h1 h2 =>
      cases h2
      exact h1
  · rename_i l' hne
    split at h
    · rename_i hnt
      injection h with h
      subst h
      have hlen := g2.length
      have h1 : ¬ vs'.toArray.size = 1 := by
        simp only [List.size_toArray]
        intro e
        rw [hlen] at e
        match l, e with
        | [x], _ => exact hne x rfl
      rw [dif_neg h1]
      refine ⟨vs'.toArray, rfl, ?_⟩
      have key : ∀ {l m : List Value}, LR (VR ρ) l m → l.all noTup = true → LR (VR1 ρ) l m := by
        intro l m hlm
        induction hlm with
        | nil => intro _; exact .nil
        | cons h1 _ ih =>
          intro hh
          simp only [List.all_cons, Bool.and_eq_true] at hh
          exact .cons (h1.no_tuple fun vs e => by subst e; simp [noTup] at hh) (ih hh.2)
      exact key g2 hnt
    · cases h
omit [Toks] in
theorem argsTr_get : ∀ (l : List Value) (i : Nat) (T : Tr Value) (t : Nat), (argsTr l i T).get t = if t < i then T.get t else if t < i + l.length then l[t - i]? else T.get t
  | [], i, T, t => by simp [argsTr]; intros; omega
  | v :: l, i, T, t => by
    rw [argsTr, argsTr_get l (i + 1)]
    simp only [Tr.get_set, List.length_cons]
    by_cases h1 : t < i
    · rw [if_pos (by omega), if_neg (by omega), if_pos h1]
    · by_cases h2 : t = i
      · subst h2
        rw [if_pos (by omega), if_pos rfl, if_neg h1, if_pos (by omega), Nat.sub_self]
        rfl
      · rw [if_neg (show ¬ t < i + 1 by omega), if_neg h1, if_neg h2]
        by_cases h3 : t < i + 1 + l.length
        · rw [if_pos h3, if_pos (by omega), show t - i = (t - (i + 1)) + 1 by omega]
          rfl
        · rw [if_neg h3, if_neg (by omega)]
theorem enter_ok {M : Nat} {ρ : Ren} {h : AHeap} {w : World} (s : Sim M ρ h w) {args : List Value} {args' : Array Value} (ha : LR (VR ρ) args args'.toList) (n : Nat) :
    SR M ρ ⟨args.length + (n - args.length), argsTr args 0 .nil, h⟩ { tmps := args' ++ Array.replicate (n - args'.size) undef, defers := [] } w := by
  have hl : args'.size = args.length := by simpa using ha.length
  refine ⟨fun t => ?_, by simp [hl], rfl, s⟩
  simp only [argsTr_get, Nat.not_lt_zero, if_false, Nat.zero_add, Nat.sub_zero, Tr.get]
  rw [Array.getD_eq_getD_getElem?]
  by_cases ht : t < args.length
  · rw [if_pos ht]
    obtain ⟨b, h1, h2⟩ := ha.get t _ (List.getElem?_eq_getElem ht)
    rw [Array.getElem?_append_left (by omega), ← Array.getElem?_toList, h1, List.getElem?_eq_getElem ht]
    exact h2
  · rw [if_neg ht, Array.getElem?_append_right (by omega)]
    simp only [Option.getD_none]
    cases hg : (Array.replicate (n - args'.size) undef)[t - args'.size]? with
    | none => exact VR.flat rfl
    | some x =>
      have hlt := (Array.getElem?_eq_some_iff.1 hg).1
      have : x = undef := by
        have := (Array.getElem?_eq_some_iff.1 hg).2
        simpa using this.symm
      subst this
      exact VR.flat rfl
/-- The answers that are known by contract are right. -/
def OverOk (P : Program) (over : FuncId → List Value → Option Value) : Prop :=
  ∀ (f : FuncId) (args : List Value) (v : Value), over f args = some v → ∀ (ρ : Ren) (w : World) (args' : Array Value), LR (VR ρ) args args'.toList →
    ∃ fn, P.funcs[f]? = some fn ∧ fn.body.isNone = false ∧ (fn.name == "runtime.NumGoroutine") = false ∧ Calls P f args' w fun e w' => ∃ v', e = .returned v' ∧ VR ρ v v' ∧ w = w'
structure CfgOk (P : Program) (okF : Cfg) : Prop where
  over : OverOk P okF.over
  summ : CallOk P okF.summ
  mono : CallMono okF.summ
theorem CallOk.none {P : Program} : CallOk P (fun _ _ _ => Option.none) := fun _ _ _ _ _ _ _ _ _ _ _ _ h => nomatch h
omit [Toks] in
theorem CallMono.none : CallMono (fun _ _ _ => Option.none) := fun _ _ _ _ _ h => nomatch h
section
variable {okF : Cfg}
omit [Toks] in
theorem callX_n (hsm : CallMono okF.summ) {code : Code → St → Option (XExit × St)} (hcode : ∀ (c : Code) (st st' : St) (e : XExit), code c st = some (e, st') → st.heap.n ≤ st'.heap.n) : CallMono (callX P okF code) := by
  intro f args h v h' hc
  unfold callX at hc
  split at hc
  · injection hc with hc; injection hc with _ hc; subst hc; exact Nat.le_refl _
  split at hc
  · rename_i r hr
    injection hc with hc
    subst hc
    exact hsm _ _ _ _ _ hr
  split at hc
  · split at hc
    · split at hc
      · split at hc
        · cases hc
        · split at hc
          · rename_i st hst
            simp only [Option.bind_eq_some_iff, Option.some.injEq, Prod.mk.injEq] at hc
            obtain ⟨r, hr, rfl, rfl⟩ := hc
            exact hcode _ _ _ _ hst
          · rename_i st hst
            simp only [Option.bind_eq_some_iff, Option.some.injEq, Prod.mk.injEq] at hc
            obtain ⟨r, hr, rfl, rfl⟩ := hc
            exact hcode _ _ _ _ hst
          · cases hc
      · cases hc
    · cases hc
  · cases hc
omit [Toks] in
theorem run_n (hsm : CallMono okF.summ) : ∀ (n : Nat) (task : Task) (st st' : St) (e : XExit), xrun P okF n task st = some (e, st') → st.heap.n ≤ st'.heap.n := by
  intro n
  induction n with
  | zero => intro task st st' e h; simp [xrun] at h
  | succ n ih =>
    have hmono : CallMono (callX P okF fun c st => xrun P okF n (.code c) st) := callX_n hsm fun c st st' e h => ih (.code c) st st' e h
    intro task st st' e hx
    have same : ∀ {x : Option (XExit × St)}, (x = some (e, st')) → (∀ e1 st1, x = some (e1, st1) → st.heap.n ≤ st1.heap.n) → st.heap.n ≤ st'.heap.n := fun h1 h2 => h2 _ _ h1
    cases task with
    | within c rest =>
      simp only [xrun] at hx
      cases hr : xrun P okF n (.code rest) st with
      | none => rw [hr] at hx; cases hx
      | some q =>
        obtain ⟨e1, st1⟩ := q
        rw [hr] at hx
        have h1 := ih _ _ _ _ hr
        cases e1 with
        | goto l =>
          simp only at hx
          cases hf : findLabel c l with
          | none => rw [hf] at hx; simp only [Option.some.injEq, Prod.mk.injEq] at hx; rw [← hx.2]; exact h1
          | some rest' => rw [hf] at hx; exact Nat.le_trans h1 (ih _ _ _ _ hx)
        | _ => simp only [Option.some.injEq, Prod.mk.injEq] at hx; rw [← hx.2]; exact h1
    | looping c =>
      simp only [xrun] at hx
      cases hr : xrun P okF n (.code c) st with
      | none => rw [hr] at hx; cases hx
      | some q =>
        obtain ⟨e1, st1⟩ := q
        rw [hr] at hx
        have h1 := ih _ _ _ _ hr
        cases e1 with
        | normal => exact Nat.le_trans h1 (ih _ _ _ _ hx)
        | _ => simp only [Option.some.injEq, Prod.mk.injEq] at hx; rw [← hx.2]; exact h1
    | code c =>
      cases c with
      | skip => simp only [xrun, Option.some.injEq, Prod.mk.injEq] at hx; rw [← hx.2]; exact Nat.le_refl _
      | label l => simp only [xrun, Option.some.injEq, Prod.mk.injEq] at hx; rw [← hx.2]; exact Nat.le_refl _
      | ret => simp only [xrun, Option.some.injEq, Prod.mk.injEq] at hx; rw [← hx.2]; exact Nat.le_refl _
      | exit id => simp only [xrun, Option.some.injEq, Prod.mk.injEq] at hx; rw [← hx.2]; exact Nat.le_refl _
      | goto l => simp only [xrun, Option.some.injEq, Prod.mk.injEq] at hx; rw [← hx.2]; exact Nat.le_refl _
      | region id ops draw =>
        simp only [xrun] at hx
        split at hx
        · simp only [Option.bind_eq_some_iff, Option.some.injEq, Prod.mk.injEq] at hx
          obtain ⟨st1, h1, _, rfl⟩ := hx
          obtain ⟨S, t, h0, hn⟩ := xdraw_text h1
          rw [← h0, ← hn]
          exact t.le hmono (Nat.zero_le _) (Nat.le_refl _)
        · simp only [Option.bind_eq_some_iff, Option.some.injEq, Prod.mk.injEq] at hx
          obtain ⟨st1, h1, _, rfl⟩ := hx
          exact xops_n hmono h1
      | seq x y =>
        simp only [xrun] at hx
        cases hr : xrun P okF n (.code x) st with
        | none => rw [hr] at hx; cases hx
        | some q =>
          obtain ⟨e1, st1⟩ := q
          rw [hr] at hx
          have h1 := ih _ _ _ _ hr
          cases e1 with
          | normal => exact Nat.le_trans h1 (ih _ _ _ _ hx)
          | _ => simp only [Option.some.injEq, Prod.mk.injEq] at hx; rw [← hx.2]; exact h1
      | cond c x y =>
        simp only [xrun] at hx
        split at hx
        · exact ih _ _ _ _ hx
        · cases hx
      | block id b =>
        simp only [xrun] at hx
        cases hr : xrun P okF n (.code b) st with
        | none => rw [hr] at hx; cases hx
        | some q =>
          obtain ⟨e1, st1⟩ := q
          rw [hr] at hx
          have h1 := ih _ _ _ _ hr
          cases e1 with
          | exit id' =>
            simp only at hx
            split at hx <;> (simp only [Option.some.injEq, Prod.mk.injEq] at hx; rw [← hx.2]; exact h1)
          | _ => simp only [Option.some.injEq, Prod.mk.injEq] at hx; rw [← hx.2]; exact h1
      | loop b =>
        simp only [xrun] at hx
        exact ih _ _ _ _ hx
      | scope b =>
        simp only [xrun] at hx
        exact ih _ _ _ _ hx
      | rangeFunc f params assign body => simp [xrun] at hx
      | refuse why => simp [xrun] at hx
theorem callX_ok (hover : CfgOk P okF) {code : Code → St → Option (XExit × St)}
    (hcode : ∀ (c : Code) (st st' : St) (e : XExit), code c st = some (e, st') → ∀ (M : Nat) (ρ : Ren) (a : Act) (w : World) (Q : Exit → Act → World → Prop), SR M ρ st a w → st'.heap.n ≤ M → (∀ ρ' a' w', SR M ρ' st' a' w' → Ext ρ ρ' st.heap st'.heap w w' → Q (exitOf e) a' w') → c.wp P Q a w) :
    CallOk P (callX P okF code) := by
  intro M ρ h w f args args' v h' s hM ha hc
  unfold callX at hc
  split at hc
  · rename_i r hr
    injection hc with hc
    injection hc with hc1 hc2
    subst hc1 hc2
    obtain ⟨fn, g1, g2, g3, g4⟩ := hover.over f args r hr ρ w args' ha
    exact ⟨fn, g1, g2, g3, g4.mono fun e w' ⟨v', e1, e2, e3⟩ => by subst e3; exact ⟨ρ, v', e1, Ext.refl _ _ _, s, e2⟩⟩
  split at hc
  · rename_i r hr
    injection hc with hc
    subst hc
    exact hover.summ M ρ h w f args args' v h' s hM ha hr
  split at hc
  · split at hc
    · rename_i fn hfn
      split at hc
      · rename_i body hb
        split at hc
        · cases hc
        · rename_i hname
          refine ⟨fn, hfn, by rw [hb]; rfl, by simpa using hname, ?_⟩
          refine calls_of_wp hfn hb ?_
          have hen := enter_ok s ha fn.ntmps
          split at hc
          · rename_i st hst
            simp only [Option.bind_eq_some_iff, Option.some.injEq, Prod.mk.injEq] at hc
            obtain ⟨r, hr, rfl, rfl⟩ := hc
            refine hcode _ _ _ _ hst M ρ _ w _ hen hM fun ρ' a' w' h1 h2 => ?_
            obtain ⟨v', g1, g2⟩ := resX_ok h1 hr
            exact ⟨h1.df, v', g1, ρ', v', rfl, h2, h1.sim, g2⟩
          · rename_i st hst
            simp only [Option.bind_eq_some_iff, Option.some.injEq, Prod.mk.injEq] at hc
            obtain ⟨r, hr, rfl, rfl⟩ := hc
            refine hcode _ _ _ _ hst M ρ _ w _ hen hM fun ρ' a' w' h1 h2 => ?_
            obtain ⟨v', g1, g2⟩ := resX_ok h1 hr
            exact ⟨h1.df, v', g1, ρ', v', rfl, h2, h1.sim, g2⟩
          · cases hc
      · cases hc
    · cases hc
  · cases hc
theorem run_ok (hover : CfgOk P okF) (hm : P.follows .mixedOrders = true) : ∀ (n : Nat) (task : Task) (st st' : St) (e : XExit), xrun P okF n task st = some (e, st') → ∀ (M : Nat) (ρ : Ren) (a : Act) (w : World) (Q : Exit → Act → World → Prop), SR M ρ st a w → st'.heap.n ≤ M →
    (∀ ρ' a' w', SR M ρ' st' a' w' → Ext ρ ρ' st.heap st'.heap w w' → Q (exitOf e) a' w') → task.wp P Q a w := by
  intro n
  induction n with
  | zero => intro task st st' e h; simp [xrun] at h
  | succ n ih =>
    have icode : ∀ (c : Code) (st st' : St) (e : XExit), xrun P okF n (.code c) st = some (e, st') → ∀ (M : Nat) (ρ : Ren) (a : Act) (w : World) (Q : Exit → Act → World → Prop), SR M ρ st a w → st'.heap.n ≤ M → (∀ ρ' a' w', SR M ρ' st' a' w' → Ext ρ ρ' st.heap st'.heap w w' → Q (exitOf e) a' w') → c.wp P Q a w :=
      fun c st st' e h => ih (.code c) st st' e h
    have hcall : CallOk P (callX P okF fun c st => xrun P okF n (.code c) st) := callX_ok hover icode
    have hmono : CallMono (callX P okF fun c st => xrun P okF n (.code c) st) := callX_n hover.mono fun c st st' e h => run_n hover.mono n (.code c) st st' e h
    intro task st st' e hx M ρ a w Q hs hM hq
    cases task with
    | within c rest =>
      simp only [xrun] at hx
      intro b k cs
      cases hr : xrun P okF n (.code rest) st with
      | none => rw [hr] at hx; cases hx
      | some q =>
        obtain ⟨e1, st1⟩ := q
        rw [hr] at hx
        have hM1 : st1.heap.n ≤ M := by
          refine Nat.le_trans ?_ hM
          cases e1 with
          | goto l =>
            simp only at hx
            cases hf : findLabel c l with
            | none => rw [hf] at hx; simp only [Option.some.injEq, Prod.mk.injEq] at hx; rw [← hx.2]; exact Nat.le_refl _
            | some rest' => rw [hf] at hx; exact run_n hover.mono _ _ _ _ _ hx
          | _ => simp only [Option.some.injEq, Prod.mk.injEq] at hx; rw [← hx.2]; exact Nat.le_refl _
        obtain ⟨e2, a2, w2, ⟨rfl, ρ2, h1, h2⟩, harr⟩ := icode rest st st1 e1 hr M ρ a w (fun x a' w' => x = exitOf e1 ∧ ∃ ρ', SR M ρ' st1 a' w' ∧ Ext ρ ρ' st.heap st1.heap w w') hs hM1 (fun ρ' a' w' h1 h2 => ⟨rfl, ρ', h1, h2⟩) b (.inScope c :: k) cs
        cases e1 with
        | normal =>
          simp only [Option.some.injEq, Prod.mk.injEq] at hx
          obtain ⟨rfl, rfl⟩ := hx
          exact ⟨.normal, a2, w2, hq _ _ _ h1 h2, Steps.trans harr (.one step_inScope)⟩
        | ret =>
          simp only [Option.some.injEq, Prod.mk.injEq] at hx
          obtain ⟨rfl, rfl⟩ := hx
          exact ⟨.ret, a2, w2, hq _ _ _ h1 h2, harr⟩
        | exit id =>
          simp only [Option.some.injEq, Prod.mk.injEq] at hx
          obtain ⟨rfl, rfl⟩ := hx
          exact ⟨.exit id, a2, w2, hq _ _ _ h1 h2, fun k' hk => harr k' (by simp [exitTo, hk])⟩
        | goto l =>
          simp only at hx
          cases hf : findLabel c l with
          | none =>
            rw [hf] at hx
            simp only [Option.some.injEq, Prod.mk.injEq] at hx
            obtain ⟨rfl, rfl⟩ := hx
            exact ⟨.goto l, a2, w2, hq _ _ _ h1 h2, fun k' hk => harr k' (by simp [gotoIn, hf, hk])⟩
          | some rest' =>
            rw [hf] at hx
            obtain ⟨e3, a3, w3, g1, g2⟩ := ih (.within c rest') st1 st' e hx M ρ2 a2 w2 Q h1 hM (fun ρ' a' w' k1 k2 => hq ρ' a' w' k1 (h2.trans hs.sim h1.sim k2)) b k cs
            exact ⟨e3, a3, w3, g1, .of_steps (harr _ (by simp [gotoIn, hf])) g2⟩
    | looping c =>
      simp only [xrun] at hx
      intro b k cs
      cases hr : xrun P okF n (.code c) st with
      | none => rw [hr] at hx; cases hx
      | some q =>
        obtain ⟨e1, st1⟩ := q
        rw [hr] at hx
        have hM1 : st1.heap.n ≤ M := by
          refine Nat.le_trans ?_ hM
          cases e1 with
          | normal => exact run_n hover.mono _ _ _ _ _ hx
          | _ => simp only [Option.some.injEq, Prod.mk.injEq] at hx; rw [← hx.2]; exact Nat.le_refl _
        obtain ⟨e2, a2, w2, ⟨rfl, ρ2, h1, h2⟩, harr⟩ := icode c st st1 e1 hr M ρ a w (fun x a' w' => x = exitOf e1 ∧ ∃ ρ', SR M ρ' st1 a' w' ∧ Ext ρ ρ' st.heap st1.heap w w') hs hM1 (fun ρ' a' w' h1 h2 => ⟨rfl, ρ', h1, h2⟩) b (.inLoop c :: k) cs
        cases e1 with
        | normal =>
          simp only at hx
          obtain ⟨e3, a3, w3, g1, g2⟩ := ih (.looping c) st1 st' e hx M ρ2 a2 w2 Q h1 hM (fun ρ' a' w' k1 k2 => hq ρ' a' w' k1 (h2.trans hs.sim h1.sim k2)) b k cs
          exact ⟨e3, a3, w3, g1, .of_steps (Steps.trans harr (.one step_inLoop)) g2⟩
        | ret =>
          simp only [Option.some.injEq, Prod.mk.injEq] at hx
          obtain ⟨rfl, rfl⟩ := hx
          exact ⟨.ret, a2, w2, hq _ _ _ h1 h2, harr⟩
        | exit id =>
          simp only [Option.some.injEq, Prod.mk.injEq] at hx
          obtain ⟨rfl, rfl⟩ := hx
          exact ⟨.exit id, a2, w2, hq _ _ _ h1 h2, fun k' hk => harr k' (by simp [exitTo, hk])⟩
        | goto l =>
          simp only [Option.some.injEq, Prod.mk.injEq] at hx
          obtain ⟨rfl, rfl⟩ := hx
          exact ⟨.goto l, a2, w2, hq _ _ _ h1 h2, fun k' hk => harr k' (by simp [gotoIn, hk])⟩
    | code c =>
      cases c with
      | skip =>
        simp only [xrun, Option.some.injEq, Prod.mk.injEq] at hx
        obtain ⟨rfl, rfl⟩ := hx
        exact wp_skip (hq _ _ _ hs (Ext.refl _ _ _))
      | label l =>
        simp only [xrun, Option.some.injEq, Prod.mk.injEq] at hx
        obtain ⟨rfl, rfl⟩ := hx
        exact wp_label (hq _ _ _ hs (Ext.refl _ _ _))
      | ret =>
        simp only [xrun, Option.some.injEq, Prod.mk.injEq] at hx
        obtain ⟨rfl, rfl⟩ := hx
        exact wp_ret (hq _ _ _ hs (Ext.refl _ _ _))
      | exit id =>
        simp only [xrun, Option.some.injEq, Prod.mk.injEq] at hx
        obtain ⟨rfl, rfl⟩ := hx
        exact wp_exit (hq _ _ _ hs (Ext.refl _ _ _))
      | goto l =>
        simp only [xrun, Option.some.injEq, Prod.mk.injEq] at hx
        obtain ⟨rfl, rfl⟩ := hx
        exact wp_goto (hq _ _ _ hs (Ext.refl _ _ _))
      | region id ops draw =>
        simp only [xrun] at hx
        split at hx
        · rename_i hd
          subst hd
          simp only [Option.bind_eq_some_iff, Option.some.injEq, Prod.mk.injEq] at hx
          obtain ⟨st1, h1, rfl, rfl⟩ := hx
          exact xdraw_ok hm hcall hmono hs hM h1 hq
        · rename_i hd
          have hd : draw = false := by simpa using hd
          subst hd
          simp only [Option.bind_eq_some_iff, Option.some.injEq, Prod.mk.injEq] at hx
          obtain ⟨st1, h1, rfl, rfl⟩ := hx
          exact xregion_ok hcall hmono hs hM h1 hq
      | seq x y =>
        simp only [xrun] at hx
        refine wp_seq ?_
        cases hr : xrun P okF n (.code x) st with
        | none => rw [hr] at hx; cases hx
        | some q =>
          obtain ⟨e1, st1⟩ := q
          rw [hr] at hx
          have hM1 : st1.heap.n ≤ M := by
            refine Nat.le_trans ?_ hM
            cases e1 with
            | normal => exact run_n hover.mono _ _ _ _ _ hx
            | _ => simp only [Option.some.injEq, Prod.mk.injEq] at hx; rw [← hx.2]; exact Nat.le_refl _
          refine icode x st st1 e1 hr M ρ a w _ hs hM1 fun ρ2 a2 w2 h1 h2 => ?_
          cases e1 with
          | normal => exact icode y st1 st' e hx M ρ2 a2 w2 Q h1 hM fun ρ' a' w' k1 k2 => hq ρ' a' w' k1 (h2.trans hs.sim h1.sim k2)
          | _ =>
            simp only [Option.some.injEq, Prod.mk.injEq] at hx
            obtain ⟨rfl, rfl⟩ := hx
            exact hq _ _ _ h1 h2
      | cond c x y =>
        simp only [xrun] at hx
        split at hx
        · rename_i t ht
          refine wp_cond (ev_ok hs.tr ht).bool ?_
          cases t
          · exact icode y st st' e hx M ρ a w Q hs hM hq
          · exact icode x st st' e hx M ρ a w Q hs hM hq
        · cases hx
      | block id b =>
        simp only [xrun] at hx
        refine wp_block ?_
        cases hr : xrun P okF n (.code b) st with
        | none => rw [hr] at hx; cases hx
        | some q =>
          obtain ⟨e1, st1⟩ := q
          rw [hr] at hx
          have hM1 : st1.heap.n ≤ M := by
            refine Nat.le_trans ?_ hM
            cases e1 with
            | exit id' =>
              simp only at hx
              split at hx <;> (simp only [Option.some.injEq, Prod.mk.injEq] at hx; rw [← hx.2]; exact Nat.le_refl _)
            | _ => simp only [Option.some.injEq, Prod.mk.injEq] at hx; rw [← hx.2]; exact Nat.le_refl _
          refine icode b st st1 e1 hr M ρ a w _ hs hM1 fun ρ2 a2 w2 h1 h2 => ?_
          cases e1 with
          | exit id' =>
            simp only at hx
            by_cases hid : id' = id
            · subst hid
              simp only [if_true, Option.some.injEq, Prod.mk.injEq] at hx
              obtain ⟨rfl, rfl⟩ := hx
              simp only [exitOf, Exit.inBlock, if_true]
              exact hq _ _ _ h1 h2
            · simp only [hid, if_false, Option.some.injEq, Prod.mk.injEq] at hx
              obtain ⟨rfl, rfl⟩ := hx
              simp only [exitOf, Exit.inBlock, hid, if_false]
              exact hq _ _ _ h1 h2
          | _ =>
            simp only [Option.some.injEq, Prod.mk.injEq] at hx
            obtain ⟨rfl, rfl⟩ := hx
            exact hq _ _ _ h1 h2
      | loop b =>
        simp only [xrun] at hx
        intro fr k cs
        obtain ⟨e3, a3, w3, g1, g2⟩ := ih (.looping b) st st' e hx M ρ a w Q hs hM hq fr k cs
        exact ⟨e3, a3, w3, g1, .of_steps (.one step_loop) g2⟩
      | scope b =>
        simp only [xrun] at hx
        intro fr k cs
        obtain ⟨e3, a3, w3, g1, g2⟩ := ih (.within b b) st st' e hx M ρ a w Q hs hM hq fr k cs
        exact ⟨e3, a3, w3, g1, .of_steps (.one step_scope) g2⟩
      | rangeFunc f params assign body => simp [xrun] at hx
      | refuse why => simp [xrun] at hx
theorem xcall_ok (hover : CfgOk P okF) (hm : P.follows .mixedOrders = true) (n : Nat) : CallOk P (xcall P okF n) := callX_ok hover fun c st st' e h => run_ok hover hm n (.code c) st st' e h
def yes : Option (Value × AHeap) → Bool
  | some (.bool true, _) => true
  | _ => false
/-- A statement that the executor finds true, over numbers that it need not know. -/
theorem top_ok (hover : CfgOk P okF) (hm : P.follows .mixedOrders = true) (n : Nat) {f : FuncId} {args : List Value} {args' : Array Value} (W : World) (ha : LR (VR fun _ => none) args args'.toList) (h : yes (xcall P okF n f args h0) = true) :
    Calls P f args' W fun e w' => e = .returned (.bool true) ∧ Below W.heap.size W w' := by
  unfold yes at h
  split at h
  · rename_i h' hx
    have s : Sim h'.n (fun _ => none) h0 W := ⟨fun i o l h1 h2 => (by cases h2), fun i j o o' l l' _ _ h3 => (by cases h3), fun i l h1 => (by cases h1), fun i _ => AHeap.get_ge h0 i (Nat.zero_le _), Nat.zero_le _⟩
    obtain ⟨fn, _, _, _, g⟩ := xcall_ok hover hm n h'.n (fun _ => none) h0 W f args args' (.bool true) h' s (Nat.le_refl _) ha hx
    refine g.mono fun e w' ⟨ρ', v', e1, E, _, hv⟩ => ?_
    rw [hv.bool] at e1
    exact ⟨e1, E.os, E.tape, E.output, E.size, fun k hk => E.frame k hk fun i l o h1 => (by cases h1)⟩
  · cases h
/-- The same, where the arguments stand in memory that is only read. -/
theorem top_ok2 (hover : CfgOk P okF) (hm : P.follows .mixedOrders = true) (n : Nat) {f : FuncId} {ρ : Ren} {h : AHeap} {args : List Value} {args' : Array Value} (W : World) (s : ∀ M, h.n ≤ M → Sim M ρ h W) (hro : ∀ i o, h.get i = some o → o.kind = 2) (ha : LR (VR ρ) args args'.toList) (hy : yes (xcall P okF n f args h) = true) :
    Calls P f args' W fun e w' => e = .returned (.bool true) ∧ Below W.heap.size W w' := by
  unfold yes at hy
  split at hy
  · rename_i h' hx
    have hle : h.n ≤ h'.n := callX_n hover.mono (fun c st st' e h => run_n hover.mono n (.code c) st st' e h) f args h _ _ hx
    obtain ⟨fn, _, _, _, g⟩ := xcall_ok hover hm n h'.n ρ h W f args args' (.bool true) h' (s _ hle) (Nat.le_refl _) ha hx
    refine g.mono fun e w' ⟨ρ', v', e1, E, _, hv⟩ => ?_
    rw [hv.bool] at e1
    refine ⟨e1, E.os, E.tape, E.output, E.size, fun k hk => ?_⟩
    by_cases hn : ∃ i l o, ρ i = some l ∧ h.get i = some o ∧ l.b = k
    · obtain ⟨i, l, o, h1, h2, h3⟩ := hn
      rw [← h3]
      exact (E.ro i o h2 (hro i o h2)).2 l h1
    · exact E.frame k hk fun i l o h1 h2 _ h3 => hn ⟨i, l, o, h1, h2, h3⟩
  · cases hy
end
end
end Go.Proofs.Ytfbedlhigggggaa
