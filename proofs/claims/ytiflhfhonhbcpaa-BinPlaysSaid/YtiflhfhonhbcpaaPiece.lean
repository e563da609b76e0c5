/- A region of any frame, by the executor: only what the region looks at need be known of the frame, and of memory. -/
import Derived.Test.YtiflhfhonhbcpaaRun
namespace Go.Proofs.Ytiflhfhonhbcpaa
open Go Go.RowKit
set_option linter.unusedVariables false

def wrote (ops : Array Oper) (d : Tmp) : Bool := ops.toList.any fun o => o.dst == some d
/-- How far a frame, and one of which less is known, agree. -/
structure Ag (ops : Array Oper) (R : Tmp → Prop) (aI : Act) (listed : Array Bool) (a a0 : Act) : Prop where
  sz : a.tmps.size = a0.tmps.size
  df : a.defers = a0.defers
  eq : ∀ d, (R d ∨ ∃ j o, ops[j]? = some o ∧ o.dst = some d ∧ On listed j) → a.tmps[d]? = a0.tmps[d]?
  only : ∀ d, wrote ops d = false → a.tmps[d]? = aI.tmps[d]?
  szI : a.tmps.size = aI.tmps.size
section
variable {P : Program} {ops : Array Oper} {R : Tmp → Prop} {aI a a0 : Act} {listed : Array Bool} {Q Q0 : Exit → Act → World → Prop}
theorem put_get (a : Act) (d : Tmp) (v : Value) (k : Nat) : (a.put (some d) v).tmps[k]? = if k = d then (if d < a.tmps.size then some v else none) else a.tmps[k]? := by
  simp only [Act.put]
  by_cases e : k = d
  · subst e
    by_cases h : k < a.tmps.size
    · simp [h]
    · simp [h]
  · rw [if_neg e, Array.getElem?_setIfInBounds_ne (fun x => e x.symm)]
theorem put_size (a : Act) (d : Option Tmp) (v : Value) : (a.put d v).tmps.size = a.tmps.size := by cases d <;> simp [Act.put]
theorem put_df (a : Act) (d : Option Tmp) (v : Value) : (a.put d v).defers = a.defers := by cases d <;> rfl
theorem Ag.put (h : Ag ops R aI listed a a0) (hsz : listed.size = ops.size) {i : Nat} {o : Oper} (ho : ops[i]? = some o) (v : Value) : Ag ops R aI (listed.setIfInBounds i true) (a.put o.dst v) (a0.put o.dst v) := by
  have hil : i < listed.size := by rw [hsz]; exact (Array.getElem?_eq_some_iff.1 ho).1
  have hw : ∀ d, o.dst = some d → wrote ops d = true := fun d hd => by
    unfold wrote
    rw [List.any_eq_true]
    exact ⟨o, by simpa using Array.mem_of_getElem? ho, by simp [hd]⟩
  refine ⟨by rw [put_size, put_size, h.sz], by rw [put_df, put_df, h.df], fun d hd => ?_, fun d hd => ?_, by rw [put_size, h.szI]⟩
  · cases hdst : o.dst with
    | none =>
      refine h.eq d (hd.imp id fun ⟨j, o', h1, h2, h3⟩ => ⟨j, o', h1, h2, ?_⟩)
      rcases (on_set hil).1 h3 with e | e
      · subst e
        rw [ho] at h1
        injection h1 with h1
        subst h1
        rw [hdst] at h2
        cases h2
      · exact e
    | some k =>
      rw [put_get, put_get, h.sz]
      by_cases e : d = k
      · rw [if_pos e, if_pos e]
      · rw [if_neg e, if_neg e]
        refine h.eq d (hd.imp id fun ⟨j, o', h1, h2, h3⟩ => ⟨j, o', h1, h2, ?_⟩)
        rcases (on_set hil).1 h3 with e' | e'
        · subst e'
          rw [ho] at h1
          injection h1 with h1
          subst h1
          rw [hdst] at h2
          injection h2 with h2
          exact absurd h2.symm e
        · exact e'
  · cases hdst : o.dst with
    | none => exact h.only d hd
    | some k =>
      rw [put_get, if_neg (fun e => by rw [e, hw k hdst] at hd; cases hd)]
      exact h.only d hd
theorem Ag.defer (h : Ag ops R aI listed a a0) (d : Deferred) : Ag ops R aI listed { a with defers := d :: a.defers } { a0 with defers := d :: a0.defers } := ⟨h.sz, by simp [h.df], h.eq, h.only, h.szI⟩
theorem Ag.eval (h : Ag ops R aI listed a a0) {o : Oper} (hl : ∀ d, d ∈ o.looksAt ops → a.tmps[d]? = a0.tmps[d]?) {x : Operand} (hx : x ∈ o.op.operands) : a.eval x = a0.eval x := by
  cases x with
  | tmp t =>
    simp only [Act.eval, Array.getD_eq_getD_getElem?]
    rw [hl t (List.mem_append_left _ (List.mem_filterMap.2 ⟨.tmp t, by simpa using hx, rfl⟩))]
  | _ => rfl
theorem wanted_same {o : Oper} (hl : ∀ d, d ∈ o.looksAt ops → a.tmps[d]? = a0.tmps[d]?) : Region.wanted o (yielded ops a.tmps) = Region.wanted o (yielded ops a0.tmps) := by
  unfold Region.wanted
  cases hg : o.guard with
  | none => rfl
  | some gw =>
    obtain ⟨g, want⟩ := gw
    have hy : yielded ops a.tmps g = yielded ops a0.tmps g := by
      unfold yielded
      cases ht : (ops[g]?).bind (·.dst) with
      | none => rfl
      | some t => simp only [Option.bind_some, hl t (by simp [Oper.looksAt, hg, ht])]
    simp only [hy]
/-- What holds of the frame of which less is known holds of the other one. -/
theorem wpAny_ag (hQ0 : ∀ e a w, Q0 e a w → e = .normal) (lk : Looks ops) (hlook : ∀ (i : Nat) (o : Oper) (d : Tmp), ops[i]? = some o → d ∈ o.looksAt ops → (∃ (j : Nat) (o' : Oper), j < i ∧ ops[j]? = some o' ∧ o'.dst = some d) ∨ R d)
    (hq : ∀ a a0 w listed, Ag ops R aI listed a a0 → (∀ j, j < ops.size → On listed j) → Q0 .normal a0 w → Q .normal a w) :
    ∀ (fuel : Nat) (listed : Array Bool) (a a0 : Act) (w : World), listed.size = ops.size → Ag ops R aI listed a a0 → wpAny P .any ops Q0 fuel listed a0 w → wpAny P .any ops Q fuel listed a w := by
  have fin : ∀ (listed : Array Bool), listed.size = ops.size → Region.ready .any ops listed = [] → ∀ j, j < ops.size → On listed j := by
    intro listed hsz hr j
    induction j using Nat.strongRecOn with
    | _ j ih =>
      intro hj
      refine Classical.byContradiction fun hoff => ?_
      obtain ⟨o, ho⟩ := idx_some hj
      have : j ∈ Region.ready .any ops listed := mem_ready.2 ⟨(off_iff (by rw [hsz]; exact hj)).2 hoff, o, ho, fun e he hb => ih e.on (lk.back j o ho e he hb) (Nat.lt_trans (lk.back j o ho e he hb) hj)⟩
      rw [hr] at this
      cases this
  have nolet : ¬ LetsOut Q0 := fun ⟨a, w, h⟩ => by cases hQ0 _ _ _ h
  intro fuel
  induction fuel with
  | zero =>
    intro listed a a0 w hsz hag h
    exact ⟨h.1, hq a a0 w listed hag (fin listed hsz h.1) h.2⟩
  | succ fuel ih =>
    intro listed a a0 w hsz hag h
    refine ⟨fun hr => hq a a0 w listed hag (fin listed hsz hr) (h.1 hr), fun i hi => ?_⟩
    obtain ⟨h1, o, ho, hedge⟩ := mem_ready.1 hi
    have hstep := h.2 i hi
    have hl : ∀ d, d ∈ o.looksAt ops → a.tmps[d]? = a0.tmps[d]? := fun d hd => by
      refine hag.eq d ?_
      rcases hlook i o d ho hd with ⟨j, o', hji, hj, hjd⟩ | hr
      · obtain ⟨e, he1, he2, he3⟩ := edgeTo_spec ((lk.looks i j o o' d ho hj hd hjd).1 hji)
        exact .inr ⟨j, o', hj, hjd, by rw [← he3]; exact hedge e he1 he2⟩
      · exact .inl hr
    have hns : ∀ cs b, o.op ≠ .select cs b := fun cs b e => by
      have := lk.nosel i o ho
      rw [e] at this
      cases this
    have hex : execOp a.eval o = execOp a0.eval o := execOp_congr o hns fun x hx => hag.eval hl hx
    have hwn := wanted_same (a := a) (a0 := a0) hl
    have next : ∀ (v : Value) (w : World), wpAny P .any ops Q0 fuel (listed.setIfInBounds i true) (a0.put o.dst v) w → wpAny P .any ops Q fuel (listed.setIfInBounds i true) (a.put o.dst v) w :=
      fun v w hk => ih _ _ _ w (by simpa using hsz) (hag.put hsz ho v) hk
    unfold wpOp at hstep ⊢
    simp only [ho] at hstep ⊢
    rw [hwn]
    split
    · rename_i hw
      rw [if_pos hw] at hstep
      rcases hstep with hstep | ⟨_, hlets⟩
      case inr => exact absurd hlets nolet
      refine .inl ?_
      unfold Oper.wp at hstep ⊢
      rw [hex]
      generalize (execOp a0.eval o).run P w = r at hstep ⊢
      cases r with
      | ok n w' =>
        cases n <;> simp only [Oper.upon] at hstep ⊢
        case value u => exact next u w' hstep
        case skip => exact next _ w' hstep
        case defer d => exact ih _ _ _ w' (by simpa using hsz) ((hag.defer d).put hsz ho undef) hstep
        case enter f args =>
          refine Calls.mono hstep fun e w'' he => ?_
          cases e with
          | returned u => exact next u w'' he
          | panicked c => cases hQ0 _ _ _ he
          | outgrown => exact absurd he nolet
        case row row args => exact Rows.mono hstep fun u w'' he => next u w'' he
      | halt x w' =>
        cases x <;> simp only [Oper.upon] at hstep ⊢
        case panic u => cases hQ0 _ _ _ hstep
    · rename_i hw
      rw [if_neg hw] at hstep
      exact next undef w hstep
end
def pieceOk (ops : Array Oper) (Rl : List Tmp) (chk : List (Tmp × Value)) : Bool :=
  (ops.toList.zipIdx.all fun (o, i) => (Oper.looksAt ops o).all fun d => Rl.any (Nat.beq d) || ops.toList.zipIdx.any fun (o', j) => decide (j < i) && o'.dst == some d) &&
  chk.all fun p => wrote ops p.1
section
variable [Toks]
variable {P : Program} {call : XCall} {ops : Array Oper} {S : Nat → St} {M : Nat} {ρ : Ren} {Q : Exit → Act → World → Prop}
theorem xdraw_any {st st' : St} {a : Act} {w : World} (hcall : CallOk P call) (hm : CallMono call) (hs : SR M ρ st a w) (hM : st'.heap.n ≤ M) (hx : xdraw P call ops st = some st')
    (hq : ∀ ρ' a' w', SR M ρ' st' a' w' → Ext ρ ρ' st.heap st'.heap w w' → Q .normal a' w') : wpAny P .any ops Q ops.size (Array.replicate ops.size false) a { w with drawn := w.drawn + 1 } := by
  obtain ⟨S, t, h0, hn⟩ := xdraw_text hx
  have lk := looks_of t.draw
  subst h0 hn
  have s0 : Sim M ρ (S 0).heap { w with drawn := w.drawn + 1 } := hs.sim.heap_eq rfl
  obtain ⟨p, p1, p2, p3, p4⟩ := next_stage (ops := ops) ops.size 0 (by omega)
  have off0 : ∀ j, ¬ On (Array.replicate ops.size false) j := fun j h => by
    unfold On at h
    rw [Array.getD_eq_getD_getElem?] at h
    cases hg : (Array.replicate ops.size false)[j]? with
    | none => rw [hg] at h; cases h
    | some b =>
      rw [hg] at h
      have := (Array.getElem?_eq_some_iff.1 hg).2
      simp at this
      subst this
      cases h
  have el : ∀ id o, EL ops S p id o → id < (S 0).heap.n → (S 0).heap.get id = some o := by
    rintro id o ⟨x, hb, hg⟩ hid
    have hx0 : x = 0 := born_unique hb ⟨Nat.zero_le _, hid, fun y hy => by omega⟩
    subst hx0
    rw [Nat.max_eq_left (Nat.zero_le p), t.stay' hm (i := 0) p1 p2 p4 id hid] at hg
    exact hg
  have eld : ∀ id o l, EL ops S p id o → ρ id = some l → (S 0).heap.get id = some o := fun id o l h1 h2 => by
    refine el id o h1 ?_
    rcases (s0.dom id l h2).1 with e | e
    · exact e
    · obtain ⟨x, hb, _⟩ := h1
      have := hb.2.1
      have := t.le hm (i := x) (j := ops.size) hb.1 (Nat.le_refl _)
      omega
  refine all_any hcall hm t lk s0 hM (fun ρ' a' w' h1 h2 => hq ρ' a' w' h1 ⟨h2.sub, h2.new, h2.alive, h2.out, h2.n_le, h2.size, h2.os, h2.tape, h2.output, h2.frame, h2.ro, h2.old2⟩) ops.size (List.range ops.size) _ a _ ρ (S 0).tmps p ?_ (fun j hj _ => List.mem_range.2 hj) (by simp)
  exact ⟨by simp, fun j o _ h => absurd h (off0 j), fun j hj => ⟨fun h => absurd h (off0 j), fun h => absurd hj (p4 j (Nat.zero_le _) h)⟩, ⟨p2, p3⟩, Ren.le_refl _, fun id l h => .inl h, hs.tr, fun j o d _ h => absurd h (off0 j), fun d _ => rfl, hs.nt, hs.df,
    fun id o l h1 h2 => s0.ok id o l (eld id o l h1 h2) h2, fun x y o o' l l' h1 h2 h3 h4 => s0.inj x y o o' l l' (eld x o l h1 h3) (eld y o' l' h2 h4) h3 h4, fun id l h => (s0.dom id l h).2, Nat.le_refl _, rfl, rfl, rfl, fun _ _ _ => rfl,
    fun id l o h1 h2 hk => .inr ⟨id, l, o, h1, eld id o l h2 h1, hk, rfl⟩, (fun id l h1 h2 => by rw [h1] at h2; cases h2), fun _ _ _ _ _ _ => rfl, fun m _ h => absurd h (off0 m), fun m _ h => absurd h (off0 m), fun m _ h => absurd h (off0 m), fun m _ h => absurd h (off0 m), fun id o l h1 h2 _ => eld id o l h1 h2⟩
/-- What memory and the known slots are behind the region. -/
structure Done (ρ : Ren) (h : AHeap) (chk : List (Tmp × Value)) (a : Act) (w : World) (a' : Act) (w' : World) : Prop where
  vals : ∃ (M : Nat) (ρ' : Ren) (h' : AHeap), Ext ρ ρ' h h' w w' ∧ Sim M ρ' h' w' ∧ ∀ p ∈ chk, VR ρ' p.2 (a'.tmps.getD p.1 undef)
  sz : a'.tmps.size = a.tmps.size
  df : a'.defers = []
def slotsTr : List (Tmp × Value) → Tr Value
  | [] => .nil
  | (d, v) :: l => (slotsTr l).set d (some v)
omit [Toks] in
theorem slotsTr_none : ∀ {l : List (Tmp × Value)} {t : Tmp}, t ∉ l.map (·.1) → (slotsTr l).get t = none
  | [], t, _ => by cases t <;> rfl
  | (d, v) :: l, t, h => by
    simp only [List.map_cons, List.mem_cons, not_or] at h
    simp only [slotsTr, Tr.get_set, if_neg h.1]
    exact slotsTr_none h.2
/-- A region that draws its order, in any frame. -/
theorem piece_draw {okF : Cfg} (hover : CfgOk P okF) (hmix : P.follows .mixedOrders = true) (n : Nat) {id : Nat} {a : Act} {w : World} {h : AHeap} (L chk : List (Tmp × Value)) (nt : Nat)
    (s : ∀ M, h.n ≤ M → Sim M ρ h w) (hnt : a.tmps.size = nt) (hdf : a.defers = []) (hT : ∀ p ∈ L, VR ρ (((slotsTr L).get p.1).getD undef) (a.tmps.getD p.1 undef))
    (hR : pieceOk ops (L.map (·.1)) chk = true)
    (hx : (xdraw P (callX P okF fun c st => xrun P okF n (.code c) st) ops ⟨nt, slotsTr L, h⟩).map (fun st => chk.map fun p => st.tmps.get p.1) = some (chk.map fun p => some p.2))
    (hq : ∀ a' w', Done ρ h chk a w a' w' → (∀ d, wrote ops d = false → a'.tmps[d]? = a.tmps[d]?) → Q .normal a' w') : (Code.region id ops true).wp P Q a w := by
  cases hxd : xdraw P (callX P okF fun c st => xrun P okF n (.code c) st) ops ⟨nt, slotsTr L, h⟩ with
  | none => rw [hxd] at hx; cases hx
  | some st' =>
    rw [hxd] at hx
    simp only [Option.map_some, Option.some.injEq] at hx
    have hcall : CallOk P (callX P okF fun c st => xrun P okF n (.code c) st) := callX_ok hover (fun c st st' e hh => run_ok hover hmix n (.code c) st st' e hh)
    have hmono : CallMono (callX P okF fun c st => xrun P okF n (.code c) st) := callX_n hover.mono fun c st st' e hh => run_n hover.mono n (.code c) st st' e hh
    obtain ⟨S, t, h0, hn⟩ := xdraw_text hxd
    have lk := looks_of t.draw
    have hle : h.n ≤ st'.heap.n := by
      have := t.le hmono (i := 0) (j := ops.size) (Nat.zero_le _) (Nat.le_refl _)
      rw [h0, hn] at this
      exact this
    -- the frame of which less is known
    let a0 : Act := { tmps := ((List.range nt).map fun d => if d ∈ L.map (·.1) then a.tmps.getD d undef else undef).toArray, defers := [] }
    have g0 : ∀ d, a0.tmps.getD d undef = if d ∈ L.map (·.1) then a.tmps.getD d undef else undef := by
      intro d
      rw [Array.getD_eq_getD_getElem?]
      by_cases hd : d < nt
      · have e : a0.tmps[d]? = some (if d ∈ L.map (·.1) then a.tmps.getD d undef else undef) := by
          show ((List.range nt).map fun d => if d ∈ L.map (·.1) then a.tmps.getD d undef else undef).toArray[d]? = _
          rw [List.getElem?_toArray, List.getElem?_map, List.getElem?_range hd]
          rfl
        rw [e, Option.getD_some]
      · have e : a0.tmps[d]? = none := Array.getElem?_eq_none (by simp [a0]; omega)
        have e2 : a.tmps[d]? = none := Array.getElem?_eq_none (by omega)
        rw [e, Array.getD_eq_getD_getElem?, e2]
        split <;> rfl
    have hs : SR st'.heap.n ρ ⟨nt, slotsTr L, h⟩ a0 w := by
      refine ⟨fun t => ?_, by simp [a0], rfl, s _ hle⟩
      show VR ρ (((slotsTr L).get t).getD undef) (a0.tmps.getD t undef)
      rw [g0]
      by_cases ht : t ∈ L.map (·.1)
      · rw [if_pos ht]
        obtain ⟨p, hp, rfl⟩ := List.mem_map.1 ht
        exact hT p hp
      · rw [if_neg ht, slotsTr_none ht]
        exact VR.flat rfl
    have hany := xdraw_any hcall hmono hs (Nat.le_refl _) hxd (Q := fun e a' w' => e = .normal ∧ ∃ ρ', SR st'.heap.n ρ' st' a' w' ∧ Ext ρ ρ' h st'.heap w w') (fun ρ' a' w' h1 h2 => ⟨rfl, ρ', h1, h2⟩)
    simp only [pieceOk, Bool.and_eq_true, List.all_eq_true] at hR
    refine wp_region_any hmix (wpAny_ag (R := fun d => d ∈ L.map (·.1)) (aI := a) (fun e a w h => h.1) lk (fun i o d ho hd => ?_) (fun a1 a2 w1 listed hag hall hq1 => ?_) _ _ a a0 _ (by simp) ⟨by simp [a0, hnt], hdf, fun d hd => ?_, fun d _ => rfl, rfl⟩ hany)
    · have := hR.1 (o, i) (zip_mem ho) d hd
      simp only [Bool.or_eq_true, List.any_eq_true, Bool.and_eq_true, decide_eq_true_eq, beq_iff_eq] at this
      rcases this with ⟨x, hx1, hx2⟩ | ⟨⟨o', j⟩, hj, hji, hjd⟩
      · exact .inr (by rw [Nat.eq_of_beq_eq_true hx2]; exact hx1)
      · refine .inl ⟨j, o', hji, ?_, hjd⟩
        rw [List.mem_zipIdx_iff_getElem?] at hj
        simpa using hj
    · obtain ⟨_, ρ', h1, h2⟩ := hq1
      refine hq a1 w1 ⟨⟨_, ρ', _, h2, h1.sim, fun p hp => ?_⟩, hag.szI, by rw [hag.df, h1.df]⟩ hag.only
      have hw := hR.2 p hp
      unfold wrote at hw
      rw [List.any_eq_true] at hw
      obtain ⟨o, ho, hod⟩ := hw
      obtain ⟨j, hj⟩ := List.getElem?_of_mem ho
      have hj' : ops[j]? = some o := by simpa using hj
      have e := hag.eq p.1 (.inr ⟨j, o, hj', by simpa using hod, hall j (idx_lt hj')⟩)
      rw [Array.getD_eq_getD_getElem?, e, ← Array.getD_eq_getD_getElem?]
      have hv := h1.tr p.1
      have hl : st'.tmps.get p.1 = some p.2 := by
        obtain ⟨k, hk⟩ := List.getElem?_of_mem hp
        have := congrArg (fun l => l[k]?) hx
        simpa [hk] using this
      rw [hl] at hv
      exact hv
    · rcases hd with hd | ⟨j, o, _, _, hon⟩
      · have e := g0 d
        rw [if_pos hd] at e
        by_cases hlt : d < nt
        · have hl1 : d < a.tmps.size := by rw [hnt]; exact hlt
          have e1 : a.tmps[d]? = some (a.tmps.getD d undef) := by rw [Array.getD_eq_getD_getElem?, Array.getElem?_eq_getElem hl1]; rfl
          have e2 : a0.tmps[d]? = some (a0.tmps.getD d undef) := by rw [Array.getD_eq_getD_getElem?, Array.getElem?_eq_getElem (by simp [a0]; exact hlt)]; rfl
          rw [e1, e2, e]
        · have z1 : a.tmps[d]? = none := Array.getElem?_eq_none (by rw [hnt]; exact Nat.le_of_not_lt hlt)
          have hs0 : a0.tmps.size = nt := by simp [a0]
          have z2 : a0.tmps[d]? = none := Array.getElem?_eq_none (by rw [hs0]; exact Nat.le_of_not_lt hlt)
          rw [z1, z2]
      · exfalso
        unfold On at hon
        rw [Array.getD_eq_getD_getElem?] at hon
        cases hg : (Array.replicate ops.size false)[j]? with
        | none => rw [hg] at hon; cases hon
        | some b =>
          rw [hg] at hon
          have := (Array.getElem?_eq_some_iff.1 hg).2
          simp at this
          subst this
          cases hon
omit [Toks] in
/-- Where memory that is known is only read, nothing that was there has changed. -/
theorem Ext.ro_below {ρ' : Ren} {h h' : AHeap} {w w' : World} (E : Ext ρ ρ' h h' w w') (hro : ∀ i o, h.get i = some o → o.kind = 2) : Below w.heap.size w w' :=
  ⟨E.os, E.tape, E.output, E.size, fun k hk => by
    by_cases hn : ∃ i l o, ρ i = some l ∧ h.get i = some o ∧ l.b = k
    · obtain ⟨i, l, o, h1, h2, h3⟩ := hn
      rw [← h3]
      exact (E.ro i o h2 (hro i o h2)).2 l h1
    · exact E.frame k hk fun i l o h1 h2 _ h3 => hn ⟨i, l, o, h1, h2, h3⟩⟩
omit [Toks] in
theorem puts_get : ∀ (ds : List Tmp) (f : Tmp → Value) (a : Act) (k : Nat), k < a.tmps.size → (ds.foldl (fun b d => b.put (some d) (f d)) a).tmps[k]? = if k ∈ ds then some (f k) else a.tmps[k]?
  | [], f, a, k, h => by simp
  | d :: ds, f, a, k, h => by
    rw [List.foldl_cons, puts_get ds f _ k (by rw [put_size]; exact h), put_get]
    by_cases h1 : k ∈ ds
    · rw [if_pos h1, if_pos (List.mem_cons_of_mem _ h1)]
    · rw [if_neg h1]
      by_cases h2 : k = d
      · subst h2
        rw [if_pos rfl, if_pos h, if_pos (List.mem_cons_self ..)]
      · rw [if_neg h2, if_neg (by simp only [List.mem_cons, not_or]; exact ⟨h2, h1⟩)]
omit [Toks] in
theorem puts_size : ∀ (ds : List Tmp) (f : Tmp → Value) (a : Act), (ds.foldl (fun b d => b.put (some d) (f d)) a).tmps.size = a.tmps.size
  | [], f, a => rfl
  | d :: ds, f, a => by rw [List.foldl_cons, puts_size ds f, put_size]
omit [Toks] in
theorem puts_df : ∀ (ds : List Tmp) (f : Tmp → Value) (a : Act), (ds.foldl (fun b d => b.put (some d) (f d)) a).defers = a.defers
  | [], f, a => rfl
  | d :: ds, f, a => by rw [List.foldl_cons, puts_df ds f, put_df]
omit [Toks] in
theorem puts_of {a a' : Act} (ds : List Tmp) (hsz : a'.tmps.size = a.tmps.size) (hdf : a'.defers = a.defers) (hO : ∀ d, d ∉ ds → a'.tmps[d]? = a.tmps[d]?) : a' = ds.foldl (fun b d => b.put (some d) (a'.tmps.getD d undef)) a := by
  have e : a'.tmps = (ds.foldl (fun b d => b.put (some d) (a'.tmps.getD d undef)) a).tmps := by
    apply Array.ext_getElem?
    intro k
    by_cases hk : k < a.tmps.size
    · rw [puts_get ds _ a k hk]
      by_cases h1 : k ∈ ds
      · rw [if_pos h1, Array.getD_eq_getD_getElem?, Array.getElem?_eq_getElem (by rw [hsz]; exact hk)]
        rfl
      · rw [if_neg h1, hO k h1]
    · rw [Array.getElem?_eq_none (by rw [hsz]; exact Nat.le_of_not_lt hk), Array.getElem?_eq_none (by rw [puts_size]; exact Nat.le_of_not_lt hk)]
  obtain ⟨t', d'⟩ := a'
  have e2 := puts_df ds (fun d => t'.getD d undef) a
  generalize hb : ds.foldl (fun b d => b.put (some d) (t'.getD d undef)) a = b at e e2
  obtain ⟨t2, d2⟩ := b
  simp only at e e2 hdf
  rw [← e, e2, ← hdf]
/-- A region that draws its order, in any frame: the frame behind it written out. -/
theorem piece_run {okF : Cfg} (hover : CfgOk P okF) (hmix : P.follows .mixedOrders = true) (n : Nat) {id : Nat} {a : Act} {w : World} {h : AHeap} {ρ : Ren} (L chk : List (Tmp × Value)) (nt : Nat) (ds : List Tmp)
    (s : ∀ M, h.n ≤ M → Sim M ρ h w) (hnt : a.tmps.size = nt) (hdf : a.defers = []) (hT : ∀ p ∈ L, VR ρ (((slotsTr L).get p.1).getD undef) (a.tmps.getD p.1 undef))
    (hR : pieceOk ops (L.map (·.1)) chk = true) (hds : ops.toList.filterMap (·.dst) = ds)
    (hx : (xdraw P (callX P okF fun c st => xrun P okF n (.code c) st) ops ⟨nt, slotsTr L, h⟩).map (fun st => chk.map fun p => st.tmps.get p.1) = some (chk.map fun p => some p.2))
    (hq : ∀ (f : Tmp → Value) (w' : World), (∃ (M : Nat) (ρ' : Ren) (h' : AHeap), Ext ρ ρ' h h' w w' ∧ Sim M ρ' h' w' ∧ ∀ p ∈ chk, VR ρ' p.2 (f p.1)) → Q .normal (ds.foldl (fun b d => b.put (some d) (f d)) a) w') : (Code.region id ops true).wp P Q a w := by
  refine piece_draw hover hmix n L chk nt s hnt hdf hT hR hx fun a' w' hD hO => ?_
  rw [puts_of ds hD.sz (by rw [hD.df, hdf]) (fun d hd => hO d (by
    unfold wrote
    rw [List.any_eq_false]
    intro o ho e
    refine hd ?_
    rw [← hds]
    exact List.mem_filterMap.2 ⟨o, ho, by simpa using e⟩))]
  exact hq (fun d => a'.tmps.getD d undef) w' hD.vals
end
end Go.Proofs.Ytiflhfhonhbcpaa
