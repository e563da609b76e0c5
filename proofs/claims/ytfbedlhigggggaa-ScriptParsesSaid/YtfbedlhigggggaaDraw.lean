/- Regions, abstract and real side by side. -/
import Derived.Test.YtfbedlhigggggaaView
namespace Go.Proofs.Ytfbedlhigggggaa
open Go Go.RowKit
variable [Toks]

/-- A frame and its memory. -/
structure SR (M : Nat) (ρ : Ren) (st : St) (a : Act) (w : World) : Prop where
  tr : TR ρ st.tmps a.tmps
  nt : a.tmps.size = st.nt
  df : a.defers = []
  sim : Sim M ρ st.heap w
section
variable {P : Program} {ops : Array Oper} {M : Nat} {ρ ρ' : Ren} {st st' : St} {a : Act} {w w' : World} {h : AHeap}
theorem putX_ok {dst : Option Tmp} {v v' : Value} (hp : putX st dst v h = some st') (ht : TR ρ' st.tmps a.tmps) (hn : a.tmps.size = st.nt) (hd : a.defers = []) (hs : Sim M ρ' h w') (hv : VR ρ' v v') : SR M ρ' st' (a.put dst v') w' ∧ st'.heap = h ∧ st'.nt = st.nt := by
  cases dst with
  | none =>
    simp only [putX, Option.some.injEq] at hp
    subst hp
    exact ⟨⟨ht, hn, hd, hs⟩, rfl, rfl⟩
  | some d =>
    simp only [putX] at hp
    split at hp
    · rename_i hlt0
      have hlt : (d : Nat) < a.tmps.size := by rw [hn]; exact hlt0
      injection hp with hp
      subst hp
      refine ⟨⟨fun t => ?_, by simp [Act.put, hn], hd, hs⟩, rfl, rfl⟩
      simp only [Tr.get_set, Act.put]
      by_cases e : t = d
      · subst e
        rw [if_pos rfl, Option.getD_some, Array.getD_eq_getD_getElem?, Array.getElem?_setIfInBounds_self_of_lt hlt, Option.getD_some]
        exact hv
      · have e' : ¬ d = t := fun x => e x.symm
        simp only [if_neg e, Array.getD_eq_getD_getElem?, Array.getElem?_setIfInBounds_ne e']
        have := ht t
        rwa [Array.getD_eq_getD_getElem?] at this
    · cases hp
theorem yieldedX_ok {T : Tr Value} (ht : TR ρ T a.tmps) (j : Nat) : yielded ops a.tmps j = yieldedX ops T j := by
  unfold yielded yieldedX
  cases hd : (ops[j]?).bind (·.dst) with
  | none => rfl
  | some d =>
    have h1 := ht d
    rw [Array.getD_eq_getD_getElem?] at h1
    simp only [Option.bind_some]
    cases hT : T.get d with
    | none =>
      rw [hT, Option.getD_none] at h1
      obtain ⟨vs, e, _⟩ := VR.tup h1
      cases hg : a.tmps[d]? with
      | none => rfl
      | some x =>
        rw [hg, Option.getD_some] at e
        subst e
        rfl
    | some v =>
      rw [hT, Option.getD_some] at h1
      by_cases hb : ∃ b, v = .bool b
      · obtain ⟨b, rfl⟩ := hb
        have e := h1.bool
        cases hg : a.tmps[d]? with
        | none => rw [hg] at e; simp [undef] at e
        | some x => rw [hg, Option.getD_some] at e; subst e; rfl
      · have hL : ∀ x : Value, a.tmps[d]? = some x → (∀ b, x ≠ .bool b) := by
          intro x hx b e
          subst e
          rw [hx, Option.getD_some] at h1
          unfold VR at h1
          split at h1
          · obtain ⟨_, e, _⟩ := h1; cases e
          · unfold VR1 at h1
            split at h1
            · obtain ⟨_, e, _⟩ := h1; cases e
            · unfold VR0 at h1
              split at h1
              · obtain ⟨_, _, e, _⟩ := h1; cases e
              · unfold VR00 at h1
                split at h1
                · obtain ⟨_, _, _, e⟩ := h1; cases e
                · obtain ⟨_, _, _, _, _, e, _⟩ := h1; cases e
                · obtain ⟨_, _, e⟩ := h1; cases e
                · cases h1
                · obtain ⟨e, _⟩ := h1; cases e
                · rcases h1.2.one with ⟨x, e⟩ | ⟨x, y, e⟩ <;> cases e
                · exact hb ⟨b, h1.2.symm⟩
        cases hg : a.tmps[d]? with
        | none => cases v <;> first | rfl | exact absurd ⟨_, rfl⟩ hb
        | some x =>
          have hx := hL x hg
          cases x <;> first | exact absurd rfl (hx _) | (cases v <;> first | rfl | exact absurd ⟨_, rfl⟩ hb)
theorem wantedX_ok {T : Tr Value} (ht : TR ρ T a.tmps) (o : Oper) : Region.wanted o (yielded ops a.tmps) = wantedX ops o T := by
  unfold Region.wanted wantedX
  cases o.guard with
  | none => rfl
  | some g => obtain ⟨j, want⟩ := g; simp only [yieldedX_ok ht]
theorem StepOk.wp {o : Oper} {v : Value} {h h' : AHeap} {K : Act → World → Prop} {Q : Exit → Act → World → Prop} (hs : StepOk P M ρ h w v h' (execOp a.eval o))
    (hk : ∀ ρ' v' w', Ext ρ ρ' h h' w w' → Sim M ρ' h' w' → VR ρ' v v' → K (a.put o.dst v') w') : o.wp P a w K Q := by
  unfold Oper.wp
  rcases hs with ⟨ρ', v', w', h1 | ⟨h1, rfl⟩, h2, h3, h4⟩ | ⟨f, args, h1, h2⟩
  · rw [h1]; exact hk ρ' v' w' h2 h3 h4
  · rw [h1]; exact hk ρ' _ w' h2 h3 h4
  · rw [h1]
    refine h2.mono fun e w' he => ?_
    obtain ⟨ρ', v', rfl, a1, a2, a3⟩ := he
    exact hk ρ' v' w' a1 a2 a3
theorem xops_ok {call : XCall} (hcall : CallOk P call) (hmono : CallMono call) : ∀ {l : List Oper} {ρ : Ren} {st st' : St} {a : Act} {w : World} {Q : Exit → Act → World → Prop}, SR M ρ st a w → st'.heap.n ≤ M → xops P call ops l st = some st' →
    (∀ ρ' a' w', SR M ρ' st' a' w' → Ext ρ ρ' st.heap st'.heap w w' → Q .normal a' w') → wpList P ops Q l a w
  | [], ρ, st, st', a, w, Q, hs, hM, hx, hq => by
    simp only [xops, Option.some.injEq] at hx
    subst hx
    exact hq ρ a w hs (Ext.refl _ _ _)
  | o :: l, ρ, st, st', a, w, Q, hs, hM, hx, hq => by
    simp only [xops] at hx
    split at hx
    · rename_i st1 hst1
      have hn1 := xops_n hmono hx
      unfold wpList
      rw [wantedX_ok hs.tr]
      unfold xstep at hst1
      split at hst1
      · rename_i hw
        rw [if_pos hw]
        simp only [Option.bind_eq_some_iff] at hst1
        obtain ⟨⟨v, h'⟩, hv, hp⟩ := hst1
        have hh := (putX_n hp).1
        refine .inl ((xop_ok hs.sim (by simp only at hh; rw [← hh]; omega) hs.tr hcall hv).wp fun ρ' v' w' h1 h2 h3 => ?_)
        obtain ⟨q1, q2, q3⟩ := putX_ok hp (hs.tr.mono h1.sub) hs.nt hs.df h2 h3
        exact xops_ok hcall hmono q1 hM hx fun ρ2 a2 w2 g1 g2 => hq ρ2 a2 w2 g1 (h1.trans hs.sim h2 (by rw [q2] at g2; exact g2))
      · rename_i hw
        rw [if_neg hw]
        obtain ⟨q1, q2, q3⟩ := putX_ok hst1 hs.tr hs.nt hs.df hs.sim (VR.flat rfl)
        exact xops_ok hcall hmono q1 hM hx fun ρ2 a2 w2 g1 g2 => hq ρ2 a2 w2 g1 (by rw [q2] at g2; exact g2)
    · cases hx
theorem xregion_ok {call : XCall} (hcall : CallOk P call) (hmono : CallMono call) {id : Nat} {Q : Exit → Act → World → Prop} (hs : SR M ρ st a w) (hM : st'.heap.n ≤ M) (hx : xops P call ops ops.toList st = some st')
    (hq : ∀ ρ' a' w', SR M ρ' st' a' w' → Ext ρ ρ' st.heap st'.heap w w' → Q .normal a' w') : (Code.region id ops false).wp P Q a w := wp_region_list (xops_ok hcall hmono hs hM hx hq)
end
end Go.Proofs.Ytfbedlhigggggaa
