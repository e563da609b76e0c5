/- A load may be taken first where every operation that writes its cell still waits for it. -/
import Derived.OrdersHeld
import Derived.Deep.RegionHeld3
import Derived.Laws.Tables
namespace Go.Proofs.Ytfbedlhigggggaa
open Go
section
variable {P : Program} {ops : Array Oper} {Q : Exit → Act → World → Prop} {md : Region.Mode} {S0 : World → Prop} {ws : List (Nat × (World → Prop))}
/-- What holds of every world ('S0'), and each fact that holds till its writer has come up. -/
def heldL (S0 : World → Prop) (ws : List (Nat × (World → Prop))) (l : Array Bool) (w : World) : Prop := S0 w ∧ ∀ p ∈ ws, l.getD p.1 true = false → p.2 w
/-- Does operation 's' wait for operation 'i', by an edge of its own? -/
def waitsB (md : Region.Mode) (ops : Array Oper) (s i : Nat) : Bool := match ops[s]? with | some o => o.after.any fun e => Region.binds md e && e.on == i | none => false
/-- What holds of every world in which operation 'i' has not come up. -/
def heldT (md : Region.Mode) (ops : Array Oper) (S0 : World → Prop) (ws : List (Nat × (World → Prop))) (i : Nat) (w : World) : Prop := S0 w ∧ ∀ p ∈ ws, waitsB md ops p.1 i = true → p.2 w
/-- All that have come up had nothing to wait for. -/
def closedB (md : Region.Mode) (ops : Array Oper) (l : Array Bool) : Bool := (List.range ops.size).all fun j => !l.getD j true || match ops[j]? with | some o => o.after.all fun e => !Region.binds md e || l.getD e.on false | none => true
theorem closed_set {l : Array Bool} {j : Nat} (h : closedB md ops l = true) (hj : j ∈ Region.ready md ops l) : closedB md ops (l.setIfInBounds j true) = true := by
  obtain ⟨hun, oj, hoj, hall⟩ := mem_ready.1 hj
  have grow : ∀ k, l.getD k false = true → (l.setIfInBounds j true).getD k false = true := fun k hk => by
    by_cases e : j = k
    · subst e
      have hlt : j < l.size := by
        rcases Nat.lt_or_ge j l.size with h' | h'
        · exact h'
        · simp [Array.getElem?_eq_none h'] at hk
      simp [hlt]
    · rw [getD_set_ne false e]; exact hk
  unfold closedB at *
  rw [List.all_eq_true] at *
  intro k hk
  have h1 := h k hk
  rw [Bool.or_eq_true] at h1 ⊢
  by_cases e : j = k
  · subst e
    right
    rw [hoj]
    simp only [Array.all_eq_true_iff_forall_mem, Bool.or_eq_true, Bool.not_eq_true']
    intro x hx
    cases hb : Region.binds md x with
    | false => exact .inl rfl
    | true => exact .inr (grow _ (hall x hx hb))
  · rw [getD_set_ne true e]
    rcases h1 with h1 | h1
    · exact .inl h1
    · right
      cases ho : ops[k]? with
      | none => rfl
      | some o =>
        rw [ho] at h1
        simp only [Array.all_eq_true_iff_forall_mem, Bool.or_eq_true] at h1 ⊢
        exact fun x hx => (h1 x hx).imp id (grow _)
theorem heldT_of {l : Array Bool} {i : Nat} {w : World} (hc : closedB md ops l = true) (hi : l.getD i false = false) (h : heldL S0 ws l w) : heldT md ops S0 ws i w := by
  refine ⟨h.1, fun p hp hw => h.2 p hp ?_⟩
  cases hl : l.getD p.1 true with
  | false => rfl
  | true =>
    exfalso
    unfold waitsB at hw
    cases ho : ops[p.1]? with
    | none => rw [ho] at hw; cases hw
    | some o =>
      rw [ho] at hw
      obtain ⟨e, he, hb⟩ := Array.any_eq_true'.1 hw
      simp only [Bool.and_eq_true, beq_iff_eq] at hb
      have h1 := List.all_eq_true.1 hc p.1 (List.mem_range.2 (Array.getElem?_eq_some_iff.1 ho).1)
      rw [hl, ho] at h1
      simp only [Bool.not_true, Bool.false_or, Array.all_eq_true_iff_forall_mem, Bool.or_eq_true] at h1
      rcases h1 e he with h2 | h2
      · rw [hb.1] at h2; cases h2
      · rw [hb.2, hi] at h2; cases h2
theorem heldL_set {l : Array Bool} {i : Nat} {w : World} (hn : ∀ p ∈ ws, p.1 ≠ i) : heldL S0 ws (l.setIfInBounds i true) w ↔ heldL S0 ws l w := by
  unfold heldL
  refine and_congr_right fun _ => forall_congr' fun p => forall_congr' fun hp => ?_
  rw [getD_set_ne true (Ne.symm (hn p hp))]
/-- Whatever order is picked from here on, AND what is held is shown behind every operation. -/
def wpAnyL (P : Program) (md : Region.Mode) (ops : Array Oper) (Q : Exit → Act → World → Prop) (S0 : World → Prop) (ws : List (Nat × (World → Prop))) : Nat → Array Bool → Act → World → Prop
  | 0, listed, a, w => Region.ready md ops listed = [] ∧ Q .normal a w
  | fuel + 1, listed, a, w =>
    (Region.ready md ops listed = [] → Q .normal a w) ∧
    ∀ i ∈ Region.ready md ops listed, wpOp P ops Q i (fun a' w' => heldL S0 ws (listed.setIfInBounds i true) w' ∧ wpAnyL P md ops Q S0 ws fuel (listed.setIfInBounds i true) a' w') a w
theorem wpAny_of_heldL : ∀ (fuel : Nat) (listed : Array Bool) (a : Act) (w : World), wpAnyL P md ops Q S0 ws fuel listed a w → wpAny P md ops Q fuel listed a w
  | 0, _, _, _, h => h
  | fuel + 1, _, _, _, h => ⟨h.1, fun i hi => wpOp_mono (fun a' w' h' => wpAny_of_heldL fuel _ a' w' h'.2) (h.2 i hi)⟩
theorem wpAnyL_first {i : Nat} {oi : Oper} {v : Value} (hi : ops[i]? = some oi) (hsel : ∀ (j : Nat) (o : Oper) cs b, ops[j]? = some o → o.op ≠ .select cs b)
    (hQ : ∀ c a w, Q (.panic c) (a.put oi.dst v) w → Q (.panic c) a w) (hn : ∀ p ∈ ws, p.1 ≠ i) :
    ∀ (fuel : Nat) (listed : Array Bool) (a : Act) (w : World), closedB md ops listed = true →
      (∀ j oj, ops[j]? = some oj → j ≠ i → listed.getD j true = false → (∀ e ∈ oj.after, Region.binds md e = true → e.on ≠ i) → oi.apart ops oj = true) →
      i ∈ Region.ready md ops listed → YieldsIf P ops (heldT md ops S0 ws i) oi v a → heldL S0 ws listed w →
      wpAnyL P md ops Q S0 ws fuel (listed.setIfInBounds i true) (a.put oi.dst v) w → wpAnyL P md ops Q S0 ws (fuel + 1) listed a w := by
  intro fuel
  have unl : ∀ (listed : Array Bool), i ∈ Region.ready md ops listed → listed.getD i false = false := fun listed hr => by
    have h0 := (mem_ready.1 hr).1
    rcases Nat.lt_or_ge i listed.size with h' | h'
    · simp [h'] at h0 ⊢; exact h0
    · simp [Array.getElem?_eq_none h'] at h0
  induction fuel with
  | zero =>
    intro listed a w hc _ hr hy hS H
    refine ⟨fun h => (by rw [h] at hr; cases hr), fun j hj => ?_⟩
    by_cases hji : j = i
    · subst hji; exact hy.wpOp hi (heldT_of hc (unl _ hr) hS) ⟨(heldL_set hn).2 hS, H⟩
    · have := ready_mono hj hji
      rw [H.1] at this
      cases this
  | succ fuel ih =>
    intro listed a w hc hfree hr hy hS H
    refine ⟨fun h => (by rw [h] at hr; cases hr), fun j hj => ?_⟩
    by_cases hji : j = i
    · subst hji; exact hy.wpOp hi (heldT_of hc (unl _ hr) hS) ⟨(heldL_set hn).2 hS, H⟩
    · have h1 := H.2 j (ready_mono hj hji)
      obtain ⟨hjun, oj, hoj, hall⟩ := mem_ready.1 hj
      have hnot : ∀ e ∈ oj.after, Region.binds md e = true → e.on ≠ i := fun e he hb heq => by
        have h1 := hall e he hb
        rw [heq, unl _ hr] at h1
        cases h1
      have h2 := wpOp_putIf hoj (hfree j oj hoj hji hjun hnot) (fun cs b => hsel i oi cs b hi) (fun cs b => hsel j oj cs b hoj) hQ hy h1
      have hfree' : ∀ k ok, ops[k]? = some ok → k ≠ i → (listed.setIfInBounds j true).getD k true = false →
          (∀ e ∈ ok.after, Region.binds md e = true → e.on ≠ i) → oi.apart ops ok = true := fun k ok hk hki hun hno => by
        refine hfree k ok hk hki ?_ hno
        by_cases hjk : j = k
        · subst hjk; exact hjun
        · rw [getD_set_ne true hjk] at hun; exact hun
      refine wpOp_mono (fun a' w' h3 => ?_) h2
      have h4 : heldL S0 ws (listed.setIfInBounds j true) w' := (heldL_set hn).1 (by rw [Array.setIfInBounds_comm _ _ (Ne.symm hji)] at *; exact h3.2.1)
      refine ⟨h4, ih (listed.setIfInBounds j true) a' w' (closed_set hc hj) hfree' (ready_mono hr (Ne.symm hji)) h3.1 h4 ?_⟩
      rw [Array.setIfInBounds_comm _ _ hji]
      exact h3.2.2
theorem wpAnyL_take {i : Nat} {oi : Oper} {v : Value} {fuel : Nat} {listed : Array Bool} {a : Act} {w : World} (hi : ops[i]? = some oi) (hs : Region.noSelect ops = true)
    (hf : Region.free md ops listed i = true) (hr : (Region.ready md ops listed).contains i = true) (hc : closedB md ops listed = true) (hn : ((ws.map (·.1)).all fun p => p != i) = true)
    (hQ : ∀ c a w, Q (.panic c) (a.put oi.dst v) w → Q (.panic c) a w) (hy : YieldsIf P ops (heldT md ops S0 ws i) oi v a) (hS : heldL S0 ws listed w)
    (h : closedB md ops (listed.setIfInBounds i true) = true → wpAnyL P md ops Q S0 ws fuel (listed.setIfInBounds i true) (a.put oi.dst v) w) : wpAnyL P md ops Q S0 ws (fuel + 1) listed a w := by
  have hn' : ∀ p ∈ ws, p.1 ≠ i := fun p hp => by
    have := List.all_eq_true.1 hn p.1 (List.mem_map.2 ⟨p, hp, rfl⟩)
    simpa using this
  exact wpAnyL_first hi (Region.noSelect_spec hs) hQ hn' fuel listed a w hc (Region.free_spec hi hf) (by simpa using hr) hy hS (h (closed_set hc (by simpa using hr)))
theorem noSel_of {l : Array Bool} (h : Region.noSelect ops = true) (_hc : closedB md ops l = true) : Region.noSelect ops = true := h
def AllReadyL (P : Program) (md : Region.Mode) (ops : Array Oper) (Q : Exit → Act → World → Prop) (S0 : World → Prop) (ws : List (Nat × (World → Prop))) (fuel : Nat) (listed : Array Bool) (a : Act) (w : World) (rs : List Nat) : Prop :=
  ∀ i ∈ rs, closedB md ops (listed.setIfInBounds i true) = true → wpOp P ops Q i (fun a' w' => heldL S0 ws (listed.setIfInBounds i true) w' ∧ wpAnyL P md ops Q S0 ws fuel (listed.setIfInBounds i true) a' w') a w
theorem AllReadyL.nil {fuel : Nat} {listed : Array Bool} {a : Act} {w : World} : AllReadyL P md ops Q S0 ws fuel listed a w [] := fun _ h => by cases h
theorem AllReadyL.cons {fuel : Nat} {listed : Array Bool} {a : Act} {w : World} {i : Nat} {o : Oper} {rs : List Nat} (ho : ops[i]? = some o)
    (h : ∀ K' : Act → World → Prop, Shut (∀ a w, heldL S0 ws (listed.setIfInBounds i true) w → (closedB md ops (listed.setIfInBounds i true) = true → wpAnyL P md ops Q S0 ws fuel (listed.setIfInBounds i true) a w) → K' a w) → if Region.wanted o (yielded ops a.tmps) = true then Oper.wp P o a w K' Q else K' (a.put o.dst undef) w)
    (hs : AllReadyL P md ops Q S0 ws fuel listed a w rs) : AllReadyL P md ops Q S0 ws fuel listed a w (i :: rs) := fun j hj hc => by
  rcases List.mem_cons.1 hj with rfl | hj
  · exact wpOp_step ho (fun K' hK => h K' (fun a w hS hW => hK a w ⟨hS, hW hc⟩))
  · exact hs j hj hc
theorem wpAnyL_ready {rs : List Nat} {fuel : Nat} {listed : Array Bool} {a : Act} {w : World} (hc : closedB md ops listed = true) (hr : Region.ready md ops listed = rs) (hne : rs ≠ [])
    (h : AllReadyL P md ops Q S0 ws fuel listed a w rs) : wpAnyL P md ops Q S0 ws (fuel + 1) listed a w :=
  ⟨fun h0 => absurd (hr ▸ h0) hne, fun i hi => h i (hr ▸ hi) (closed_set hc hi)⟩
theorem wpAnyL_done {listed : Array Bool} {a : Act} {w : World} (hr : Region.ready md ops listed = []) (h : Q .normal a w) : ∀ fuel, wpAnyL P md ops Q S0 ws fuel listed a w
  | 0 => ⟨hr, h⟩
  | _ + 1 => ⟨fun _ => h, by rw [hr]; simp⟩
theorem wp_region_heldL {id : Nat} {a : Act} {w : World} (hm : P.follows .mixedOrders = true) 
    (h : closedB .any ops (Array.replicate ops.size false) = true → wpAnyL P .any ops Q S0 ws ops.size (Array.replicate ops.size false) a w.drew) : (Code.region id ops true).wp P Q a w :=
  wp_region_any hm (wpAny_of_heldL _ _ _ _ (h (by unfold closedB; rw [List.all_eq_true]; intro j hj; have hj := List.mem_range.1 hj; simp [hj])))
/-- What is held may be made more on the way. -/
theorem wpAnyH_mono {S S' : World → Prop} (h : ∀ w, S' w → S w) : ∀ (fuel : Nat) (listed : Array Bool) (a : Act) (w : World), wpAnyH P md ops Q S' fuel listed a w → wpAnyH P md ops Q S fuel listed a w
  | 0, _, _, _, hh => hh
  | fuel + 1, _, _, _, hh => ⟨hh.1, fun i hi => wpOp_mono (fun a' w' h' => ⟨h _ h'.1, wpAnyH_mono h fuel _ a' w' h'.2⟩) (hh.2 i hi)⟩
theorem yields_build {S : World → Prop} {o : Oper} {a : Act} {cells : Array Value} (t : TypeId) (parts : Array (Nat × Operand)) (ho : o.op = .build t parts) (hg : o.guard = none)
    (hf : P.built t (parts.map fun (i, x) => (i, a.eval x)).toList = some cells) : YieldsIf P ops S o (.agg cells) a := by
  refine .inl ⟨by simp [Region.wanted, hg], fun w _ => ?_⟩
  unfold execOp
  simp only [ho, Sem.run_bind, run_build w t _ cells hf, Result.andThen_ok]
  rfl
end
end Go.Proofs.Ytfbedlhigggggaa
