/- A call that answers the same in every world that meets S, and changes none, may be taken first. -/
import Derived.OrdersHeld
import Derived.Deep.RegionHeld3
import Derived.Test.YtiflhfhonhbcpaaBase
import Derived.Shelf.Abstract
namespace Go.Proofs.Ytiflhfhonhbcpaa
open Go
set_option linter.unusedVariables false
section
variable {P : Program} {ops : Array Oper} {Q : Exit → Act → World → Prop} {md : Region.Mode} {S : World → Prop}
/-- What an operation is given, and whether it is wanted, is alike in both states. -/
def Kin (ops : Array Oper) (o : Oper) (a b : Act) : Prop :=
  execOp b.eval o = execOp a.eval o ∧ Region.wanted o (yielded ops b.tmps) = Region.wanted o (yielded ops a.tmps)
/-- In every world that meets S: a value, or a call that answers it; nothing is changed. -/
def Says (P : Program) (ops : Array Oper) (S : World → Prop) (o : Oper) (v : Value) (a : Act) : Prop :=
  Region.wanted o (yielded ops a.tmps) = true ∧ ∀ w, S w → ∃ f args, (execOp a.eval o).run P w = .ok (.enter f args) w ∧ Calls P f args w fun e w' => e = .returned v ∧ w' = w
theorem Says.kin {o : Oper} {v : Value} {a b : Act} (h : Says P ops S o v a) (hk : Kin ops o a b) : Says P ops S o v b :=
  ⟨hk.2.trans h.1, fun w hw => by rw [hk.1]; exact h.2 w hw⟩
theorem Says.go {i : Nat} {o : Oper} {v : Value} {a : Act} {w : World} {K : Act → World → Prop} (hi : ops[i]? = some o) (h : Says P ops S o v a) (hS : S w) (hK : K (a.put o.dst v) w) : wpOp P ops Q i K a w := by
  obtain ⟨f, args, hr, hc⟩ := h.2 w hS
  unfold wpOp
  rw [hi]
  show if _ then _ else _
  rw [if_pos h.1]
  refine .inl ?_
  unfold Oper.wp
  rw [hr]
  exact hc.mono fun e w' he => by obtain ⟨rfl, rfl⟩ := he; exact hK
/-- Another operation leaves it so. -/
theorem wpOp_kin {j : Nat} {oi oj : Oper} {K : Act → World → Prop} {a : Act} {w : World} (hj : ops[j]? = some oj) (hsi : ∀ cs b, oi.op ≠ .select cs b) (hap : oi.apart ops oj = true) (h : wpOp P ops Q j K a w) :
    wpOp P ops Q j (fun b w' => Kin ops oi a b ∧ K b w') a w := by
  have hp := (Oper.apart_spec hap).2.2
  have kp : ∀ u, Kin ops oi a (a.put oj.dst u) := fun u => ⟨execOp_put oi hsi a oj.dst u hp, wanted_put oi a oj.dst u hp⟩
  have kd : ∀ d u, Kin ops oi a (({ a with defers := d :: a.defers } : Act).put oj.dst u) := fun d u => ⟨execOp_put oi hsi _ oj.dst u hp, wanted_put oi _ oj.dst u hp⟩
  unfold wpOp at h ⊢
  rw [hj] at h ⊢
  by_cases hw : Region.wanted oj (yielded ops a.tmps) = true
  · simp only [hw, if_true] at h ⊢
    refine h.imp (fun h => ?_) id
    unfold Oper.wp at h ⊢
    match (execOp a.eval oj).run P w, h with
    | .ok (.value u) _, h => exact ⟨kp u, h⟩
    | .ok .skip _, h => exact ⟨kp _, h⟩
    | .ok (.defer d) _, h => exact ⟨kd d _, h⟩
    | .ok (.enter f args) _, h =>
      refine Calls.mono h fun e w2 he => ?_
      match e, he with
      | .returned u, he => exact ⟨kp u, he⟩
      | .panicked c, he => exact he
      | .outgrown, he => exact he
    | .ok (.row r args) _, h => exact Rows.mono h fun u w2 he => ⟨kp u, he⟩
    | .halt (.panic u) _, h => exact h
  · simp only [hw] at h ⊢
    exact ⟨kp _, h⟩
theorem says_first {i : Nat} {oi : Oper} {v : Value} (hi : ops[i]? = some oi) (hsel : ∀ (j : Nat) (o : Oper) cs b, ops[j]? = some o → o.op ≠ .select cs b) (hQ : ∀ c a w, Q (.panic c) (a.put oi.dst v) w → Q (.panic c) a w) (n : Nat) :
    ∀ (l : Array Bool) (a : Act) (w : World), (∀ j oj, ops[j]? = some oj → j ≠ i → l.getD j true = false → (∀ e ∈ oj.after, Region.binds md e = true → e.on ≠ i) → oi.apart ops oj = true) →
      i ∈ Region.ready md ops l → Says P ops S oi v a → S w → wpAnyH P md ops Q S n (l.setIfInBounds i true) (a.put oi.dst v) w → wpAnyH P md ops Q S (n + 1) l a w := by
  induction n with
  | zero =>
    intro l a w _ hr hy hS H
    constructor
    · intro h; rw [h] at hr; cases hr
    · intro j hj
      rcases Nat.decEq j i with e | rfl
      · have := ready_mono hj e
        rw [H.1] at this
        cases this
      · exact hy.go hi hS ⟨hS, H⟩
  | succ n ih =>
    intro l a w hfr hr hy hS H
    constructor
    · intro h; rw [h] at hr; cases hr
    · intro j hj
      rcases Nat.decEq j i with e | rfl
      · obtain ⟨hun, oj, hoj, hall⟩ := mem_ready.1 hj
        have hni : ∀ e ∈ oj.after, Region.binds md e = true → e.on ≠ i := fun e he hb heq => by
          have h1 := hall e he hb
          have h0 := (mem_ready.1 hr).1
          rw [heq] at h1
          by_cases hs : i < l.size
          · simp [hs] at h0 h1
            rw [h0] at h1
            cases h1
          · simp [Array.getElem?_eq_none (Nat.le_of_not_lt hs)] at h1
        have hap := hfr j oj hoj e hun hni
        have hz : YieldsIf P ops (fun _ => False) oi v a := .inl ⟨hy.1, fun _ h => h.elim⟩
        have hw := wpOp_kin hoj (fun cs b => hsel i oi cs b hi) hap (wpOp_putIf hoj hap (fun cs b => hsel i oi cs b hi) (fun cs b => hsel j oj cs b hoj) hQ hz (H.2 j (ready_mono hj e)))
        refine wpOp_mono (fun b w2 hb => ?_) hw
        obtain ⟨hk, -, hS2, H2⟩ := hb
        refine ⟨hS2, ih _ b w2 (fun k ok hk1 hki hku hkn => hfr k ok hk1 hki ?_ hkn) (ready_mono hr (Ne.symm e)) (hy.kin hk) hS2 ?_⟩
        · by_cases hjk : j = k
          · rw [← hjk]; exact hun
          · rwa [getD_set_ne true hjk] at hku
        · rw [Array.setIfInBounds_comm _ _ e]
          exact H2
      · exact hy.go hi hS ⟨hS, H⟩
theorem wpAnyH_says {i : Nat} {oi : Oper} {v : Value} {n : Nat} {l : Array Bool} {a : Act} {w : World} (hi : ops[i]? = some oi) (hs : Region.noSelect ops = true) (hf : Region.free md ops l i = true) (hr : (Region.ready md ops l).contains i = true)
    (hQ : ∀ c a w, Q (.panic c) (a.put oi.dst v) w → Q (.panic c) a w) (hy : Says P ops S oi v a) (hS : S w) (h : wpAnyH P md ops Q S n (l.setIfInBounds i true) (a.put oi.dst v) w) : wpAnyH P md ops Q S (n + 1) l a w :=
  says_first hi (Region.noSelect_spec hs) hQ n l a w (Region.free_spec hi hf) (by simpa using hr) hy hS h
/-- A call of a function by its number, with two arguments. -/
theorem run_enter2 {a : Act} {o : Oper} {f : FuncId} {x y : Operand} {ts : Array TypeId} {w : World} {u v : Value} (he : Enters P f) (ho : o.op = .call { callee := .value (.func f), args := #[x, y], argTypes := ts }) (hx : a.eval x = u) (hy : a.eval y = v) :
    (execOp a.eval o).run P w = .ok (.enter f #[u, v]) w := by
  have hf : a.eval (.func f) = .func (.func f) #[] #[] := rfl
  unfold execOp
  simp [ho, resolve, hf, Deferred.ofValue, invoke, hx, hy]
  exact he _ _
end
end Go.Proofs.Ytiflhfhonhbcpaa
