/- A region of any frame, by the executor; what objects stand in memory behind it. -/
import Derived.Test.YtacmmkpcnpnjoaaPieceA
namespace Go.Proofs.Ytacmmkpcnpnjoaa
open Go Go.RowKit
set_option linter.unusedVariables false
section
variable [Toks]
variable {P : Program} {call : XCall} {ops : Array Oper} {S : Nat → St} {M : Nat} {ρ : Ren} {Q : Exit → Act → World → Prop}
/-- What memory and the known slots are behind the region. -/
structure DoneH (ρ : Ren) (h : AHeap) (chk : List (Tmp × Value)) (objs : List (Nat × AObj)) (a : Act) (w : World) (a' : Act) (w' : World) : Prop where
  vals : ∃ (M : Nat) (ρ' : Ren) (h' : AHeap), Ext ρ ρ' h h' w w' ∧ Sim M ρ' h' w' ∧ (∀ p ∈ chk, VR ρ' p.2 (a'.tmps.getD p.1 undef)) ∧ ∀ p ∈ objs, h'.get p.1 = some p.2
  sz : a'.tmps.size = a.tmps.size
  df : a'.defers = []
/-- A region that draws its order, in any frame. -/
theorem piece_drawH {okF : Cfg} (hover : CfgOk P okF) (hmix : P.follows .mixedOrders = true) (n : Nat) {id : Nat} {a : Act} {w : World} {h : AHeap} (L chk : List (Tmp × Value)) (objs : List (Nat × AObj)) (nt : Nat)
    (s : ∀ M, h.n ≤ M → Sim M ρ h w) (hnt : a.tmps.size = nt) (hdf : a.defers = []) (hT : ∀ p ∈ L, VR ρ (((slotsTr L).get p.1).getD undef) (a.tmps.getD p.1 undef))
    (hR : pieceOk ops (L.map (·.1)) chk = true)
    (hx : (xdraw P (callX P okF fun c st => xrun P okF n (.code c) st) ops ⟨nt, slotsTr L, h⟩).map (fun st => (chk.map fun p => st.tmps.get p.1, objs.map fun p => st.heap.get p.1)) = some (chk.map fun p => some p.2, objs.map fun p => some p.2))
    (hq : ∀ a' w', DoneH ρ h chk objs a w a' w' → (∀ d, wrote ops d = false → a'.tmps[d]? = a.tmps[d]?) → Q .normal a' w') : (Code.region id ops true).wp P Q a w := by
  cases hxd : xdraw P (callX P okF fun c st => xrun P okF n (.code c) st) ops ⟨nt, slotsTr L, h⟩ with
  | none => rw [hxd] at hx; cases hx
  | some st' =>
    rw [hxd] at hx
    simp only [Option.map_some, Option.some.injEq, Prod.mk.injEq] at hx
    obtain ⟨hx, hxH⟩ := hx
    have hcall : CallOk P (callX P okF fun c st => xrun P okF n (.code c) st) := callX_ok hover (fun c st st' e hh => run_ok hover hmix n (.code c) st st' e hh)
    have hmono : CallMono (callX P okF fun c st => xrun P okF n (.code c) st) := callX_n hover.mono fun c st st' e hh => run_n hover.mono n (.code c) st st' e hh
    obtain ⟨S, t, h0, hn⟩ := xdraw_text hxd
    have lk := looks_of t.draw
    have hle : h.n ≤ st'.heap.n := by
      have := t.le hmono (i := 0) (j := ops.size) (Nat.zero_le _) (Nat.le_refl _)
      rw [h0, hn] at this
      exact this
    -- the frame of which less is known
    let a0 : Act := { tmps := ((List.range nt).map fun d => if d ∈ L.map (·.1) then a.tmps.getD d undef else undef).toArray, defers := [] }
    have g0 : ∀ d, a0.tmps.getD d undef = if d ∈ L.map (·.1) then a.tmps.getD d undef else undef := by
      intro d
      rw [Array.getD_eq_getD_getElem?]
      by_cases hd : d < nt
      · have e : a0.tmps[d]? = some (if d ∈ L.map (·.1) then a.tmps.getD d undef else undef) := by
          show ((List.range nt).map fun d => if d ∈ L.map (·.1) then a.tmps.getD d undef else undef).toArray[d]? = _
          rw [List.getElem?_toArray, List.getElem?_map, List.getElem?_range hd]
          rfl
        rw [e, Option.getD_some]
      · have e : a0.tmps[d]? = none := Array.getElem?_eq_none (by simp [a0]; omega)
        have e2 : a.tmps[d]? = none := Array.getElem?_eq_none (by omega)
        rw [e, Array.getD_eq_getD_getElem?, e2]
        split <;> rfl
    have hs : SR st'.heap.n ρ ⟨nt, slotsTr L, h⟩ a0 w := by
      refine ⟨fun t => ?_, by simp [a0], rfl, s _ hle⟩
      show VR ρ (((slotsTr L).get t).getD undef) (a0.tmps.getD t undef)
      rw [g0]
      by_cases ht : t ∈ L.map (·.1)
      · rw [if_pos ht]
        obtain ⟨p, hp, rfl⟩ := List.mem_map.1 ht
        exact hT p hp
      · rw [if_neg ht, slotsTr_none ht]
        exact VR.flat rfl
    have hany := xdraw_any hcall hmono hs (Nat.le_refl _) hxd (Q := fun e a' w' => e = .normal ∧ ∃ ρ', SR st'.heap.n ρ' st' a' w' ∧ Ext ρ ρ' h st'.heap w w') (fun ρ' a' w' h1 h2 => ⟨rfl, ρ', h1, h2⟩)
    simp only [pieceOk, Bool.and_eq_true, List.all_eq_true] at hR
    refine wp_region_any hmix (wpAny_ag (R := fun d => d ∈ L.map (·.1)) (aI := a) (fun e a w h => h.1) lk (fun i o d ho hd => ?_) (fun a1 a2 w1 listed hag hall hq1 => ?_) _ _ a a0 _ (by simp) ⟨by simp [a0, hnt], hdf, fun d hd => ?_, fun d _ => rfl, rfl⟩ hany)
    · have := hR.1 (o, i) (zip_mem ho) d hd
      simp only [Bool.or_eq_true, List.any_eq_true, Bool.and_eq_true, decide_eq_true_eq, beq_iff_eq] at this
      rcases this with ⟨x, hx1, hx2⟩ | ⟨⟨o', j⟩, hj, hji, hjd⟩
      · exact .inr (by rw [Nat.eq_of_beq_eq_true hx2]; exact hx1)
      · refine .inl ⟨j, o', hji, ?_, hjd⟩
        rw [List.mem_zipIdx_iff_getElem?] at hj
        simpa using hj
    · obtain ⟨_, ρ', h1, h2⟩ := hq1
      refine hq a1 w1 ⟨⟨_, ρ', _, h2, h1.sim, fun p hp => ?_, fun p hp => by
          obtain ⟨k, hk⟩ := List.getElem?_of_mem hp
          have := congrArg (fun l => l[k]?) hxH
          simpa [hk] using this⟩, hag.szI, by rw [hag.df, h1.df]⟩ hag.only
      have hw := hR.2 p hp
      unfold wrote at hw
      rw [List.any_eq_true] at hw
      obtain ⟨o, ho, hod⟩ := hw
      obtain ⟨j, hj⟩ := List.getElem?_of_mem ho
      have hj' : ops[j]? = some o := by simpa using hj
      have e := hag.eq p.1 (.inr ⟨j, o, hj', by simpa using hod, hall j (idx_lt hj')⟩)
      rw [Array.getD_eq_getD_getElem?, e, ← Array.getD_eq_getD_getElem?]
      have hv := h1.tr p.1
      have hl : st'.tmps.get p.1 = some p.2 := by
        obtain ⟨k, hk⟩ := List.getElem?_of_mem hp
        have := congrArg (fun l => l[k]?) hx
        simpa [hk] using this
      rw [hl] at hv
      exact hv
    · rcases hd with hd | ⟨j, o, _, _, hon⟩
      · have e := g0 d
        rw [if_pos hd] at e
        by_cases hlt : d < nt
        · have hl1 : d < a.tmps.size := by rw [hnt]; exact hlt
          have e1 : a.tmps[d]? = some (a.tmps.getD d undef) := by rw [Array.getD_eq_getD_getElem?, Array.getElem?_eq_getElem hl1]; rfl
          have e2 : a0.tmps[d]? = some (a0.tmps.getD d undef) := by rw [Array.getD_eq_getD_getElem?, Array.getElem?_eq_getElem (by simp [a0]; exact hlt)]; rfl
          rw [e1, e2, e]
        · have z1 : a.tmps[d]? = none := Array.getElem?_eq_none (by rw [hnt]; exact Nat.le_of_not_lt hlt)
          have hs0 : a0.tmps.size = nt := by simp [a0]
          have z2 : a0.tmps[d]? = none := Array.getElem?_eq_none (by rw [hs0]; exact Nat.le_of_not_lt hlt)
          rw [z1, z2]
      · exfalso
        unfold On at hon
        rw [Array.getD_eq_getD_getElem?] at hon
        cases hg : (Array.replicate ops.size false)[j]? with
        | none => rw [hg] at hon; cases hon
        | some b =>
          rw [hg] at hon
          have := (Array.getElem?_eq_some_iff.1 hg).2
          simp at this
          subst this
          cases hon
theorem piece_runH {okF : Cfg} (hover : CfgOk P okF) (hmix : P.follows .mixedOrders = true) (n : Nat) {id : Nat} {a : Act} {w : World} {h : AHeap} {ρ : Ren} (L chk : List (Tmp × Value)) (objs : List (Nat × AObj)) (nt : Nat) (ds : List Tmp)
    (s : ∀ M, h.n ≤ M → Sim M ρ h w) (hnt : a.tmps.size = nt) (hdf : a.defers = []) (hT : ∀ p ∈ L, VR ρ (((slotsTr L).get p.1).getD undef) (a.tmps.getD p.1 undef))
    (hR : pieceOk ops (L.map (·.1)) chk = true) (hds : ops.toList.filterMap (·.dst) = ds)
    (hx : (xdraw P (callX P okF fun c st => xrun P okF n (.code c) st) ops ⟨nt, slotsTr L, h⟩).map (fun st => (chk.map fun p => st.tmps.get p.1, objs.map fun p => st.heap.get p.1)) = some (chk.map fun p => some p.2, objs.map fun p => some p.2))
    (hq : ∀ (f : Tmp → Value) (w' : World), (∃ (M : Nat) (ρ' : Ren) (h' : AHeap), Ext ρ ρ' h h' w w' ∧ Sim M ρ' h' w' ∧ (∀ p ∈ chk, VR ρ' p.2 (f p.1)) ∧ ∀ p ∈ objs, h'.get p.1 = some p.2) → Q .normal (ds.foldl (fun b d => b.put (some d) (f d)) a) w') : (Code.region id ops true).wp P Q a w := by
  refine piece_drawH hover hmix n L chk objs nt s hnt hdf hT hR hx fun a' w' hD hO => ?_
  rw [puts_of ds hD.sz (by rw [hD.df, hdf]) (fun d hd => hO d (by
    unfold wrote
    rw [List.any_eq_false]
    intro o ho e
    refine hd ?_
    rw [← hds]
    exact List.mem_filterMap.2 ⟨o, ho, by simpa using e⟩))]
  exact hq (fun d => a'.tmps.getD d undef) w' hD.vals
end
end Go.Proofs.Ytacmmkpcnpnjoaa
