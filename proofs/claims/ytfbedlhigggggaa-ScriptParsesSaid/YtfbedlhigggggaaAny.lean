/- A region that draws its order: the contract. -/
import Derived.Test.YtfbedlhigggggaaDrawn
namespace Go.Proofs.Ytfbedlhigggggaa
open Go Go.RowKit
variable [Toks]

section
variable {P : Program} {call : XCall} {ops : Array Oper} {S : Nat → St} {M0 : Nat} {ρ0 : Ren} {w0 : World} {Q : Exit → Act → World → Prop}
omit [Toks] in
theorem off_iff {listed : Array Bool} {j : Nat} (hj : j < listed.size) : listed.getD j true = false ↔ ¬ On listed j := by
  unfold On
  simp [hj]
theorem all_any (hcall : CallOk P call) (hm : CallMono call) (t : Text P call ops S) (lk : Looks ops) (s0 : Sim M0 ρ0 (S 0).heap w0) (hM0 : (S ops.size).heap.n ≤ M0)
    (hq : ∀ ρ a w, SR M0 ρ (S ops.size) a w → Ext ρ0 ρ (S 0).heap (S ops.size).heap w0 w → Q .normal a w) :
    ∀ (fuel : Nat) (l : List Nat) (listed : Array Bool) (a : Act) (w : World) (ρ : Ren) (TS : Tr Value) (p : Nat), Inv ops S ρ0 w0 ρ TS p listed a w → (∀ j, j < ops.size → ¬ On listed j → j ∈ l) → l.length ≤ fuel → wpAny P .any ops Q fuel listed a w := by
  have fin : ∀ (listed : Array Bool) (a : Act) (w : World) (ρ : Ren) (TS : Tr Value) (p : Nat), Inv ops S ρ0 w0 ρ TS p listed a w → Region.ready .any ops listed = [] → Q .normal a w := by
    intro listed a w ρ TS p inv hr
    have hall : ∀ j, j < ops.size → On listed j := by
      intro j
      induction j using Nat.strongRecOn with
      | _ j ih =>
        intro hj
        refine Classical.byContradiction fun hoff => ?_
        obtain ⟨o, ho⟩ := idx_some hj
        have : j ∈ Region.ready .any ops listed := mem_ready.2 ⟨(off_iff (by rw [inv.hsz]; exact hj)).2 hoff, o, ho, fun e he hb => ih e.on (lk.back j o ho e he hb) (Nat.lt_trans (lk.back j o ho e he hb) hj)⟩
        rw [hr] at this
        cases this
    obtain ⟨h1, h2⟩ := inv.done t hm lk s0 hM0 hall
    exact hq ρ a w h1 h2
  intro fuel
  induction fuel with
  | zero =>
    intro l listed a w ρ TS p inv hl hlen
    have hl0 : l = [] := List.eq_nil_of_length_eq_zero (by omega)
    subst hl0
    have hr : Region.ready .any ops listed = [] := by
      refine List.eq_nil_iff_forall_not_mem.2 fun j hj => ?_
      obtain ⟨h1, o, ho, _⟩ := mem_ready.1 hj
      have := hl j (idx_lt ho) ((off_iff (by rw [inv.hsz]; exact idx_lt ho)).1 h1)
      cases this
    exact ⟨hr, fin listed a w ρ TS p inv hr⟩
  | succ fuel ih =>
    intro l listed a w ρ TS p inv hl hlen
    refine ⟨fin listed a w ρ TS p inv, fun i hi => ?_⟩
    obtain ⟨h1, o, ho, hedge0⟩ := mem_ready.1 hi
    have hil := idx_lt ho
    have hls : i < listed.size := by rw [inv.hsz]; exact hil
    have hoff : ¬ On listed i := (off_iff hls).1 h1
    have hedge : ∀ e ∈ o.after, Region.binds .any e = true → On listed e.on := hedge0
    have more : ∀ (ρ' : Ren) (TS' : Tr Value) (p' : Nat) (a' : Act) (w' : World), Inv ops S ρ0 w0 ρ' TS' p' (listed.setIfInBounds i true) a' w' → wpAny P .any ops Q fuel (listed.setIfInBounds i true) a' w' := by
      intro ρ' TS' p' a' w' inv'
      refine ih (l.erase i) _ a' w' ρ' TS' p' inv' (fun j hj hn => ?_) ?_
      · rw [on_set hls] at hn
        simp only [not_or] at hn
        exact (List.mem_erase_of_ne hn.1).2 (hl j hj hn.2)
      · have := List.length_erase_of_mem (hl i hil hoff)
        omega
    have hwd := inv.wanted t lk ho hoff hedge
    unfold wpOp
    simp only [ho]
    rw [hwd]
    obtain ⟨v, hx, hval⟩ := t.val ho
    cases hmo : mover ops i o with
    | true =>
      have hip := inv.is_next lk ho hoff hedge hmo
      subst hip
      have hXg : ∀ id o', (S i).heap.get id = some o' → EL ops S i id o' := fun id o' h => by
        obtain ⟨x, hx, hb⟩ := born_exists t hm id i (by omega) (AHeap.get_lt h)
        exact ⟨x, hb, by rw [Nat.max_eq_left hx]; exact h⟩
      have sV := inv.view t hm s0 hM0 hil hoff (X := (S i).heap) rfl hXg
      rcases hx with ⟨hw, hxo⟩ | ⟨hw, hv, hh⟩
      · rw [if_pos hw]
        rw [← inv.xopEq t lk ho hoff hedge] at hxo
        refine .inl ((xop_ok sV (Nat.le_refl _) inv.tr hcall hxo).wp fun ρ' v' w' E Sm hv => ?_)
        obtain ⟨TS', p', inv'⟩ := inv.stepMover t hm lk s0 hM0 ho hoff hedge ⟨o, ho, hmo⟩ E Sm hv hval
        exact more ρ' TS' p' _ _ inv'
      · rw [if_neg (by rw [hw]; decide)]
        have E : Ext ρ ρ (S i).heap (S (i + 1)).heap w w := by rw [hh]; exact Ext.refl _ _ _
        have Sm : Sim (S (i + 1)).heap.n ρ (S (i + 1)).heap w := by rw [hh] at sV ⊢; exact sV
        subst hv
        obtain ⟨TS', p', inv'⟩ := inv.stepMover t hm lk s0 hM0 ho hoff hedge ⟨o, ho, hmo⟩ E Sm (VR.flat rfl) hval
        exact more ρ TS' p' _ _ inv'
    | false =>
      obtain ⟨V, V', sV, hVn, hxV, hk⟩ := inv.stepFloater t hm lk s0 hM0 ho hoff hedge hmo hx hval
      rcases hxV with ⟨hw, hxo⟩ | ⟨hw, hv, hh⟩
      · rw [if_pos hw]
        rw [← inv.xopEq t lk ho hoff hedge] at hxo
        refine .inl ((xop_ok sV (by rw [hVn]; exact Nat.le_refl _) inv.tr hcall hxo).wp fun ρ' v' w' E Sm hv => ?_)
        obtain ⟨TS', inv'⟩ := hk ρ' v' w' E Sm hv
        exact more ρ' TS' p _ _ inv'
      · rw [if_neg (by rw [hw]; decide)]
        subst hv hh
        obtain ⟨TS', inv'⟩ := hk ρ undef w (Ext.refl _ _ _) sV (VR.flat rfl)
        exact more ρ TS' p _ _ inv'
theorem xdraw_ok {M : Nat} {ρ : Ren} {st st' : St} {a : Act} {w : World} (hmix : P.follows .mixedOrders = true) (hcall : CallOk P call) (hm : CallMono call) {id : Nat} (hs : SR M ρ st a w) (hM : st'.heap.n ≤ M) (hx : xdraw P call ops st = some st')
    (hq : ∀ ρ' a' w', SR M ρ' st' a' w' → Ext ρ ρ' st.heap st'.heap w w' → Q .normal a' w') : (Code.region id ops true).wp P Q a w := by
  obtain ⟨S, t, h0, hn⟩ := xdraw_text hx
  have lk := looks_of t.draw
  subst h0 hn
  have s0 : Sim M ρ (S 0).heap { w with drawn := w.drawn + 1 } := hs.sim.heap_eq rfl
  refine wp_region_any hmix ?_
  obtain ⟨p, p1, p2, p3, p4⟩ := next_stage (ops := ops) ops.size 0 (by omega)
  have off0 : ∀ j, ¬ On (Array.replicate ops.size false) j := fun j h => by
    unfold On at h
    rw [Array.getD_eq_getD_getElem?] at h
    cases hg : (Array.replicate ops.size false)[j]? with
    | none => rw [hg] at h; cases h
    | some b =>
      rw [hg] at h
      have := (Array.getElem?_eq_some_iff.1 hg).2
      simp at this
      subst this
      cases h
  have el : ∀ id o, EL ops S p id o → id < (S 0).heap.n → (S 0).heap.get id = some o := by
    rintro id o ⟨x, hb, hg⟩ hid
    have hx0 : x = 0 := born_unique hb ⟨Nat.zero_le _, hid, fun y hy => by omega⟩
    subst hx0
    rw [Nat.max_eq_left (Nat.zero_le p), t.stay' hm (i := 0) p1 p2 p4 id hid] at hg
    exact hg
  have eld : ∀ id o l, EL ops S p id o → ρ id = some l → (S 0).heap.get id = some o := fun id o l h1 h2 => by
    refine el id o h1 ?_
    rcases (s0.dom id l h2).1 with e | e
    · exact e
    · obtain ⟨x, hb, _⟩ := h1
      have := hb.2.1
      have := t.le hm (i := x) (j := ops.size) hb.1 (Nat.le_refl _)
      omega
  refine all_any hcall hm t lk s0 hM (fun ρ' a' w' h1 h2 => hq ρ' a' w' h1 ⟨h2.sub, h2.new, h2.alive, h2.out, h2.n_le, h2.size, h2.os, h2.tape, h2.output, h2.frame, h2.ro, h2.old2⟩) ops.size (List.range ops.size) _ a _ ρ (S 0).tmps p ?_ (fun j hj _ => List.mem_range.2 hj) (by simp)
  exact ⟨by simp, fun j o _ h => absurd h (off0 j), fun j hj => ⟨fun h => absurd h (off0 j), fun h => absurd hj (p4 j (Nat.zero_le _) h)⟩, ⟨p2, p3⟩, Ren.le_refl _, fun id l h => .inl h, hs.tr, fun j o d _ h => absurd h (off0 j), fun d _ => rfl, hs.nt, hs.df,
    fun id o l h1 h2 => s0.ok id o l (eld id o l h1 h2) h2, fun x y o o' l l' h1 h2 h3 h4 => s0.inj x y o o' l l' (eld x o l h1 h3) (eld y o' l' h2 h4) h3 h4, fun id l h => (s0.dom id l h).2, Nat.le_refl _, rfl, rfl, rfl, fun _ _ _ => rfl,
    fun id l o h1 h2 hk => .inr ⟨id, l, o, h1, eld id o l h2 h1, hk, rfl⟩, (fun id l h1 h2 => by rw [h1] at h2; cases h2), fun _ _ _ _ _ _ => rfl, fun m _ h => absurd h (off0 m), fun m _ h => absurd h (off0 m), fun m _ h => absurd h (off0 m), fun m _ h => absurd h (off0 m), fun id o l h1 h2 _ => eld id o l h1 h2⟩
end
end Go.Proofs.Ytfbedlhigggggaa
