/- The plain terms of code are right. -/
import Derived.Test.YtolignkahfekbaaGreatDoorDenDraw
namespace Go.Proofs.YtolignkahfekbaaGreatDoor
open Go Go.RowKit
section
variable {P : Program} {c : XCall} {nt F : Nat}
theorem oIf_ok {v : Value} {a b : R} {x : Value × AHeap} (h : oIf v a b = some x) : (v = .bool true ∧ a = some x) ∨ (v = .bool false ∧ b = some x) := by
  rw [oIf_eq] at h
  unfold pIf at h
  split at h
  · rename_i t
    cases t
    · exact .inr ⟨rfl, h⟩
    · exact .inl ⟨rfl, h⟩
  · cases h
theorem lenG (A : List Nat) (T : Tr Value) : (A.map (getT T)).length = A.length := by simp
theorem labN_get {n l : Nat} : ∀ {L : List (Nat × NF n)} , (∃ f, (l, f) ∈ L ∧ labN n l L = f) ∨ labN n l L = lamN n fun _ _ => none
  | [] => .inr rfl
  | (a, f) :: r => by
    unfold labN
    cases h : Nat.beq a l with
    | true =>
      have := Nat.eq_of_beq_eq_true h
      subst this
      exact .inl ⟨f, List.mem_cons_self .., rfl⟩
    | false =>
      simp only [cond_false]
      rcases labN_get (L := r) with ⟨g, h1, h2⟩ | h1
      · exact .inl ⟨g, List.mem_cons_of_mem _ h1, h2⟩
      · exact .inr h1
theorem none_ok {h : AHeap} {x : Value × AHeap} : ∀ {n : Nat} {l : List Value}, appN n (lamN n fun _ _ => none) l h = some x → False
  | 0, [], e => by cases e
  | 0, _ :: _, e => by cases e
  | n + 1, [], e => by cases e
  | n + 1, v :: l, e => by
    simp only [appN, lamN] at e
    exact none_ok (n := n) (l := l) e
noncomputable def stepL (P : Program) (c : XCall) (nt F D : Nat) (b : Code) (T : Tr Value) (k : KE) (ih : NF (asgn b).length) : NF (asgn b).length := lamN (asgn b).length fun vs h =>
  den P c nt F D b (setAll (asgn b) vs T) h fun e T' h' => match e with
    | .normal => appN (asgn b).length ih ((asgn b).map (getT T')) h'
    | e => k e T' h'
noncomputable def hand (n : Nat) (L A : List Nat) (S : Nat → NF n) (k : KE) : KE := fun e T' h => match e with
  | .goto l => if L.contains l = true then appN n (S l) (A.map (getT T')) h else none
  | e => k e T' h
noncomputable def stepS (P : Program) (c : XCall) (nt F D : Nat) (b : Code) (T : Tr Value) (k : KE) (ih : Nat → NF (asgn b).length) (l : Nat) : NF (asgn b).length :=
  labN (asgn b).length l ((labelsOf b).map fun l' => (l', lamN (asgn b).length fun vs h => match findLabel b l' with
    | some rest => den P c nt F D rest (setAll (asgn b) vs T) h (hand (asgn b).length (labelsOf b) (asgn b) ih k)
    | none => none))
theorem loopN_succ (F n : Nat) (step : NF n → NF n) : loopN (F + 1) n step = step (loopN F n step) := rfl
theorem scopeN_succ (F n : Nat) (step : (Nat → NF n) → Nat → NF n) : scopeN (F + 1) n step = step (scopeN F n step) := rfl
theorem den_mono (hm : CallMono c) : ∀ (D : Nat) (code : Code) (T : Tr Value) (h : AHeap) (k : KE) (x : Value × AHeap), MonoE k → den P c nt F D code T h k = some x → h.n ≤ x.2.n := by
  intro D
  induction D with
  | zero => intro code T h k x _ hx; simp [den] at hx
  | succ D ih =>
    intro code T h k x hk hx
    have joinK : ∀ (A : List Nat) (T0 : Tr Value), MonoE (fun e T' h => match e with
        | .normal => appN A.length (lamN A.length fun vs h => k .normal (setAll A vs T0) h) (A.map (getT T')) h
        | e => k e T' h) := by
      intro A T0 e T' h x hx
      cases e with
      | normal =>
        simp only at hx
        rw [appN_lamN _ _ _ _ (lenG A T')] at hx
        exact hk _ _ _ _ hx
      | _ => exact hk _ _ _ _ hx
    cases code with
    | skip => exact hk _ _ _ _ hx
    | label l => exact hk _ _ _ _ hx
    | ret => exact hk _ _ _ _ hx
    | exit id => exact hk _ _ _ _ hx
    | goto l => exact hk _ _ _ _ hx
    | region id ops draw =>
      simp only [den, ifH_eq] at hx
      split at hx
      · split at hx
        · rename_i hdo
          rw [Bool.and_eq_true] at hdo
          obtain ⟨T', h', h1, h2⟩ := denC_ok hdo.1 hdo.2 hx
          exact Nat.le_trans (xops_nn hm (xdraw_ops h1)).1 (hk _ _ _ _ h2)
        · cases hx
      · obtain ⟨T', h', h1, _, h2⟩ := denOps_ok hx
        exact Nat.le_trans (xops_nn hm h1).1 (hk _ _ _ _ h2)
    | seq a b =>
      simp only [den] at hx
      refine ih a T h _ x ?_ hx
      intro e T' h x hx
      cases e with
      | normal => exact ih b T' h k x hk hx
      | _ => exact hk _ _ _ _ hx
    | cond q a b =>
      simp only [den, withJ] at hx
      split at hx
      · rcases oIf_ok hx with ⟨_, hx⟩ | ⟨_, hx⟩
        · exact ih a T h _ x (joinK _ T) hx
        · exact ih b T h _ x (joinK _ T) hx
      · cases hx
    | block id b =>
      simp only [den, withJ, ifH_eq] at hx
      refine ih b T h _ x ?_ hx
      intro e T' h x hx
      cases e with
      | normal => exact joinK (asgn b) T .normal T' h x hx
      | exit id' =>
        simp only at hx
        split at hx
        · exact joinK (asgn b) T .normal T' h x hx
        · exact hk _ _ _ _ hx
      | _ => exact hk _ _ _ _ hx
    | loop b =>
      simp only [den] at hx
      have key : ∀ (F' : Nat) (l : List Value) (h : AHeap) (x : Value × AHeap), l.length = (asgn b).length → appN (asgn b).length (loopN F' (asgn b).length (stepL P c nt F D b T k)) l h = some x → h.n ≤ x.2.n := by
        intro F'
        induction F' with
        | zero => intro l h x _ hx; exact (none_ok hx).elim
        | succ F' ihF =>
          intro l h x hl hx
          rw [loopN_succ] at hx
          unfold stepL at hx
          rw [appN_lamN _ _ _ _ hl] at hx
          refine ih b _ h _ x ?_ hx
          intro e T' h x hx
          cases e with
          | normal => exact ihF _ h x (lenG _ _) hx
          | _ => exact hk _ _ _ _ hx
      exact key F _ h x (lenG _ _) hx
    | scope b =>
      simp only [den, withJ, ifH_eq] at hx
      have key : ∀ (F' l : Nat) (vs : List Value) (h : AHeap) (x : Value × AHeap), vs.length = (asgn b).length → appN (asgn b).length (scopeN F' (asgn b).length (stepS P c nt F D b T k) l) vs h = some x → h.n ≤ x.2.n := by
        intro F'
        induction F' with
        | zero => intro l vs h x _ hx; exact (none_ok hx).elim
        | succ F' ihF =>
          intro l vs h x hl hx
          rw [scopeN_succ] at hx
          rw [stepS] at hx
          rcases labN_get (n := (asgn b).length) (l := l) (L := (labelsOf b).map fun l' => (l', lamN (asgn b).length fun vs h => match findLabel b l' with
              | some rest => den P c nt F D rest (setAll (asgn b) vs T) h (hand (asgn b).length (labelsOf b) (asgn b) (scopeN F' (asgn b).length (stepS P c nt F D b T k)) k)
              | none => none)) with ⟨f, hf, e⟩ | e
          · rw [e] at hx
            obtain ⟨l', _, e2⟩ := List.mem_map.1 hf
            simp only [Prod.mk.injEq] at e2
            obtain ⟨rfl, rfl⟩ := e2
            rw [appN_lamN _ _ _ _ hl] at hx
            split at hx
            · refine ih _ _ h _ x ?_ hx
              intro e T' h x hx
              cases e with
              | goto l2 =>
                simp only [hand] at hx
                split at hx
                · exact ihF l2 _ h x (lenG _ _) hx
                · cases hx
              | _ => exact hk _ _ _ _ hx
            · cases hx
          · rw [e] at hx
            exact (none_ok hx).elim
      refine ih b T h _ x ?_ hx
      intro e T' h x hx
      cases e with
      | goto l2 =>
        simp only at hx
        split at hx
        · exact key F l2 _ h x (lenG _ _) hx
        · cases hx
      | _ => exact hk _ _ _ _ hx
    | rangeFunc f params assign body => simp [den] at hx
    | refuse w => simp [den] at hx
theorem findLabel_assigned : ∀ {u : Code} {l : Nat} {r : Code}, findLabel u l = some r → ∀ i, i ∈ assigned r → i ∈ assigned u := by
  intro u
  induction u with
  | seq a b iha ihb =>
    intro l r h i hi
    simp only [findLabel] at h
    split at h
    · rename_i rest hr
      injection h with h
      subst h
      simp only [assigned, List.mem_append] at hi ⊢
      rcases hi with hi | hi
      · exact .inl (iha hr i hi)
      · exact .inr hi
    · simp only [assigned, List.mem_append]
      exact .inr (ihb h i hi)
  | label l' =>
    intro l r h i hi
    simp only [findLabel] at h
    split at h
    · injection h with h; subst h; exact hi
    · cases h
  | _ => intro l r h; simp [findLabel] at h
variable [Toks]
theorem SR.alike {M : Nat} {ρ : Ren} {T T' : Tr Value} {h : AHeap} {a : Act} {w : World} (hs : SR M ρ ⟨nt, T, h⟩ a w) (ht : ∀ i, getT T' i = getT T i) : SR M ρ ⟨nt, T', h⟩ a w :=
  ⟨fun t => by have := hs.tr t; simp only at this ⊢; rw [show (T'.get t).getD undef = (T.get t).getD undef from ht t]; exact this, hs.nt, hs.df, hs.sim⟩
omit [Toks] in
theorem asgn_mem {code : Code} {i : Nat} : i ∈ asgn code ↔ i ∈ assigned code := by unfold asgn; rw [List.mem_eraseDups]
omit [Toks] in
/-- Where ways meet: the slots that were turned are handed on one by one. -/
theorem join_alike {A : List Nat} {T T' : Tr Value} (h : ∀ i, i ∉ A → getT T' i = getT T i) (i : Nat) : getT (setAll A (A.map (getT T')) T) i = getT T' i := by
  rw [getT_setAll]
  split
  · rfl
  · rename_i hi; exact (h i hi).symm
theorem den_ok (hc : CallOk P c) (hm : CallMono c) (hmix : P.follows .mixedOrders = true) : ∀ (D : Nat) (code : Code) (T : Tr Value) (h : AHeap) (k : KE) (x : Value × AHeap), MonoE k → den P c nt F D code T h k = some x → ∀ (M : Nat) (ρ : Ren) (a : Act) (w : World) (Q : Exit → Act → World → Prop), x.2.n ≤ M → SR M ρ ⟨nt, T, h⟩ a w →
    (∀ e T' h' ρ' a' w', (∀ i, i ∉ assigned code → getT T' i = getT T i) → k e T' h' = some x → SR M ρ' ⟨nt, T', h'⟩ a' w' → Ext ρ ρ' h h' w w' → Q (exitOf e) a' w') → code.wp P Q a w := by
  intro D
  induction D with
  | zero => intro code T h k x _ hx; simp [den] at hx
  | succ D ih =>
    intro code T h k x hk hx M ρ a w Q hM hs hq
    have joinM : ∀ (A : List Nat) (T0 : Tr Value), MonoE (fun e T' h => match e with
        | .normal => appN A.length (lamN A.length fun vs h => k .normal (setAll A vs T0) h) (A.map (getT T')) h
        | e => k e T' h) := by
      intro A T0 e T' h x hx
      cases e with
      | normal =>
        simp only at hx
        rw [appN_lamN _ _ _ _ (lenG A T')] at hx
        exact hk _ _ _ _ hx
      | _ => exact hk _ _ _ _ hx
    -- at the end of a way that joins
    have joined : ∀ {A : List Nat} {T' : Tr Value} {h' : AHeap} {ρ' : Ren} {a' : Act} {w' : World}, (∀ i, i ∈ A → i ∈ assigned code) → (∀ i, i ∉ A → getT T' i = getT T i) →
        appN A.length (lamN A.length fun vs h => k .normal (setAll A vs T) h) (A.map (getT T')) h' = some x → SR M ρ' ⟨nt, T', h'⟩ a' w' → Ext ρ ρ' h h' w w' → Q .normal a' w' := by
      intro A T' h' ρ' a' w' hA hag hx hs' hE
      rw [appN_lamN _ _ _ _ (lenG A T')] at hx
      exact hq .normal _ h' ρ' a' w' (fun i hi => by rw [join_alike hag]; exact hag i fun h => hi (hA i h)) hx (hs'.alike fun i => join_alike hag i) hE
    cases code with
    | skip => exact wp_skip (hq .normal T h ρ a w (fun _ _ => rfl) hx hs (Ext.refl _ _ _))
    | label l => exact wp_label (hq .normal T h ρ a w (fun _ _ => rfl) hx hs (Ext.refl _ _ _))
    | ret => exact wp_ret (hq .ret T h ρ a w (fun _ _ => rfl) hx hs (Ext.refl _ _ _))
    | exit id => exact wp_exit (hq (.exit id) T h ρ a w (fun _ _ => rfl) hx hs (Ext.refl _ _ _))
    | goto l => exact wp_goto (hq (.goto l) T h ρ a w (fun _ _ => rfl) hx hs (Ext.refl _ _ _))
    | region id ops draw =>
      simp only [den, ifH_eq] at hx
      split at hx
      · split at hx
        · rename_i hdr hdo
          rw [Bool.and_eq_true] at hdo
          obtain ⟨T', h', h1, h2⟩ := denC_ok hdo.1 hdo.2 hx
          have hM1 : h'.n ≤ M := Nat.le_trans (hk _ _ _ _ h2) hM
          have hag : ∀ i, i ∉ assigned (.region id ops draw) → getT T' i = getT T i := by
            intro i hi
            have := xops_get (xdraw_ops h1) i fun o ho e => hi (by simp only [assigned]; rw [List.mem_filterMap]; exact ⟨o, ho, e⟩)
            simp only at this
            unfold getT
            rw [this]
          simp only [Bool.and_eq_true] at hdr
          obtain ⟨rfl, _⟩ := hdr
          exact xdraw_ok hmix hc hm hs hM1 h1 fun ρ' a' w' g1 g2 => hq .normal T' h' ρ' a' w' hag h2 g1 g2
        · cases hx
      · rename_i hdr
        obtain ⟨T', h', h1, hchk, h2⟩ := denOps_ok hx
        have hM1 : h'.n ≤ M := Nat.le_trans (hk _ _ _ _ h2) hM
        have hag : ∀ i, i ∉ assigned (.region id ops draw) → getT T' i = getT T i := by
          intro i hi
          have := xops_get h1 i fun o ho e => hi (by simp only [assigned]; rw [List.mem_filterMap]; exact ⟨o, ho, e⟩)
          simp only at this
          unfold getT
          rw [this]
        cases draw with
        | true =>
          simp only [Bool.true_and, Bool.not_eq_true', Bool.not_eq_false, Bool.and_eq_true] at hdr
          exact xdraw_ok hmix hc hm hs hM1 (xdraw_of hm hdr.1 hdr.2 h1 hchk) fun ρ' a' w' g1 g2 => hq .normal T' h' ρ' a' w' hag h2 g1 g2
        | false => exact xregion_ok hc hm hs hM1 h1 fun ρ' a' w' g1 g2 => hq .normal T' h' ρ' a' w' hag h2 g1 g2
    | seq u v =>
      simp only [den] at hx
      refine wp_seq ?_
      have hk2 : MonoE (fun e T h => match e with
          | .normal => den P c nt F D v T h k
          | e => k e T h) := by
        intro e T' h x hx
        cases e with
        | normal => exact den_mono hm D v T' h k x hk hx
        | _ => exact hk _ _ _ _ hx
      refine ih u T h _ x hk2 hx M ρ a w _ hM hs fun e T' h' ρ' a' w' hag hx' hs' hE => ?_
      cases e with
      | normal =>
        exact ih v T' h' k x hk hx' M ρ' a' w' Q hM hs' fun e T2 h2 ρ2 a2 w2 hag2 hx2 hs2 hE2 =>
          hq e T2 h2 ρ2 a2 w2 (fun i hi => by
            simp only [assigned, List.mem_append, not_or] at hi
            rw [hag2 i hi.2, hag i hi.1]) hx2 hs2 (hE.trans hs.sim hs'.sim hE2)
      | ret => exact hq .ret T' h' ρ' a' w' (fun i hi => hag i fun h => hi (by simp only [assigned, List.mem_append]; exact .inl h)) hx' hs' hE
      | exit id => exact hq (.exit id) T' h' ρ' a' w' (fun i hi => hag i fun h => hi (by simp only [assigned, List.mem_append]; exact .inl h)) hx' hs' hE
      | goto l => exact hq (.goto l) T' h' ρ' a' w' (fun i hi => hag i fun h => hi (by simp only [assigned, List.mem_append]; exact .inl h)) hx' hs' hE
    | cond q u v =>
      simp only [den, withJ] at hx
      split at hx
      · rename_i b hb
        have hAa : ∀ i, i ∈ asgn (.cond q u v) → i ∈ assigned (.cond q u v) := fun i hi => asgn_mem.1 hi
        rcases oIf_ok hx with ⟨rfl, hx⟩ | ⟨rfl, hx⟩
        · refine wp_cond (ev_ok hs.tr hb).bool ?_
          refine ih u T h _ x (joinM _ T) hx M ρ a w Q hM hs fun e T' h' ρ' a' w' hag hx' hs' hE => ?_
          have hag' : ∀ i, i ∉ assigned (.cond q u v) → getT T' i = getT T i := fun i hi => hag i fun h => hi (by simp only [assigned, List.mem_append]; exact .inl h)
          cases e with
          | normal => exact joined hAa (fun i hi => hag' i fun h => hi (asgn_mem.2 h)) hx' hs' hE
          | ret => exact hq .ret T' h' ρ' a' w' hag' hx' hs' hE
          | exit id => exact hq (.exit id) T' h' ρ' a' w' hag' hx' hs' hE
          | goto l => exact hq (.goto l) T' h' ρ' a' w' hag' hx' hs' hE
        · refine wp_cond (ev_ok hs.tr hb).bool ?_
          refine ih v T h _ x (joinM _ T) hx M ρ a w Q hM hs fun e T' h' ρ' a' w' hag hx' hs' hE => ?_
          have hag' : ∀ i, i ∉ assigned (.cond q u v) → getT T' i = getT T i := fun i hi => hag i fun h => hi (by simp only [assigned, List.mem_append]; exact .inr h)
          cases e with
          | normal => exact joined hAa (fun i hi => hag' i fun h => hi (asgn_mem.2 h)) hx' hs' hE
          | ret => exact hq .ret T' h' ρ' a' w' hag' hx' hs' hE
          | exit id => exact hq (.exit id) T' h' ρ' a' w' hag' hx' hs' hE
          | goto l => exact hq (.goto l) T' h' ρ' a' w' hag' hx' hs' hE
      · cases hx
    | block id u =>
      simp only [den, withJ, ifH_eq] at hx
      refine wp_block ?_
      have hAa : ∀ i, i ∈ asgn u → i ∈ assigned (.block id u) := fun i hi => asgn_mem.1 hi
      have hk2 : MonoE (fun e T' h => match e with
          | .normal => appN (asgn u).length (lamN (asgn u).length fun vs h => k .normal (setAll (asgn u) vs T) h) ((asgn u).map (getT T')) h
          | .exit id' => if id' = id then appN (asgn u).length (lamN (asgn u).length fun vs h => k .normal (setAll (asgn u) vs T) h) ((asgn u).map (getT T')) h else k (.exit id') T' h
          | e => k e T' h) := by
        intro e T' h x hx
        cases e with
        | normal => exact joinM (asgn u) T .normal T' h x hx
        | exit id' =>
          simp only at hx
          split at hx
          · exact joinM (asgn u) T .normal T' h x hx
          · exact hk _ _ _ _ hx
        | _ => exact hk _ _ _ _ hx
      refine ih u T h _ x hk2 hx M ρ a w _ hM hs fun e T' h' ρ' a' w' hag hx' hs' hE => ?_
      cases e with
      | normal => exact joined hAa (fun i hi => hag i fun h => hi (asgn_mem.2 h)) hx' hs' hE
      | ret => exact hq .ret T' h' ρ' a' w' hag hx' hs' hE
      | exit id' =>
        simp only at hx'
        by_cases hid : id' = id
        · subst hid
          rw [if_pos rfl] at hx'
          simp only [exitOf, Exit.inBlock, if_true]
          exact joined hAa (fun i hi => hag i fun h => hi (asgn_mem.2 h)) hx' hs' hE
        · rw [if_neg hid] at hx'
          simp only [exitOf, Exit.inBlock, hid, if_false]
          exact hq (.exit id') T' h' ρ' a' w' hag hx' hs' hE
      | goto l => exact hq (.goto l) T' h' ρ' a' w' hag hx' hs' hE
    | loop u =>
      simp only [den] at hx
      have hsM : ∀ F', MonoE (fun e T' h' => match e with
          | .normal => appN (asgn u).length (loopN F' (asgn u).length (stepL P c nt F D u T k)) ((asgn u).map (getT T')) h'
          | e => k e T' h') := by
        intro F'
        have key : ∀ (F' : Nat) (l : List Value) (h : AHeap) (x : Value × AHeap), l.length = (asgn u).length → appN (asgn u).length (loopN F' (asgn u).length (stepL P c nt F D u T k)) l h = some x → h.n ≤ x.2.n := by
          intro F'
          induction F' with
          | zero => intro l h x _ hx; exact (none_ok hx).elim
          | succ F' ihF =>
            intro l h x hl hx
            rw [loopN_succ] at hx
            unfold stepL at hx
            rw [appN_lamN _ _ _ _ hl] at hx
            refine den_mono hm D u _ h _ x ?_ hx
            intro e T' h x hx
            cases e with
            | normal => exact ihF _ h x (lenG _ _) hx
            | _ => exact hk _ _ _ _ hx
        intro e T' h x hx
        cases e with
        | normal => exact key F' _ h x (lenG _ _) hx
        | _ => exact hk _ _ _ _ hx
      have key : ∀ (F' : Nat) (T1 : Tr Value) (h1 : AHeap) (ρ1 : Ren) (a1 : Act) (w1 : World), (∀ i, i ∉ assigned u → getT T1 i = getT T i) → appN (asgn u).length (loopN F' (asgn u).length (stepL P c nt F D u T k)) ((asgn u).map (getT T1)) h1 = some x →
          SR M ρ1 ⟨nt, T1, h1⟩ a1 w1 → Ext ρ ρ1 h h1 w w1 → (Task.looping u).wp P Q a1 w1 := by
        intro F'
        induction F' with
        | zero => intro T1 h1 ρ1 a1 w1 _ hx; exact (none_ok hx).elim
        | succ F' ihF =>
          intro T1 h1 ρ1 a1 w1 hag1 hx hs1 hE1
          rw [loopN_succ] at hx
          unfold stepL at hx
          rw [appN_lamN _ _ _ _ (lenG _ _)] at hx
          have hag0 : ∀ i, i ∉ asgn u → getT T1 i = getT T i := fun i hi => hag1 i fun h => hi (asgn_mem.2 h)
          intro b kk cs
          obtain ⟨e2, a2, w2, ⟨e, T', h', ρ', rfl, hag, hx', hs', hE⟩, harr⟩ := ih u _ h1 _ x (hsM F') hx M ρ1 a1 w1 (fun q a' w' => ∃ e T' h' ρ', q = exitOf e ∧ (∀ i, i ∉ assigned u → getT T' i = getT T i) ∧ (match e with
              | .normal => appN (asgn u).length (loopN F' (asgn u).length (stepL P c nt F D u T k)) ((asgn u).map (getT T')) h'
              | e => k e T' h') = some x ∧ SR M ρ' ⟨nt, T', h'⟩ a' w' ∧ Ext ρ1 ρ' h1 h' w1 w') hM (hs1.alike fun i => join_alike hag0 i)
            (fun e T' h' ρ' a' w' hag hx' hs' hE => ⟨e, T', h', ρ', rfl, fun i hi => by rw [hag i hi, join_alike hag0, hag1 i hi], hx', hs', hE⟩) b (.inLoop u :: kk) cs
          have hE2 := hE1.trans hs.sim hs1.sim hE
          cases e with
          | normal =>
            obtain ⟨e3, a3, w3, g1, g2⟩ := ihF T' h' ρ' a2 w2 hag hx' hs' hE2 b kk cs
            exact ⟨e3, a3, w3, g1, .of_steps (Steps.trans harr (.one step_inLoop)) g2⟩
          | ret => exact ⟨.ret, a2, w2, hq .ret T' h' ρ' a2 w2 hag hx' hs' hE2, harr⟩
          | exit id => exact ⟨.exit id, a2, w2, hq (.exit id) T' h' ρ' a2 w2 hag hx' hs' hE2, fun k' hk => harr k' (by simp [exitTo, hk])⟩
          | goto l => exact ⟨.goto l, a2, w2, hq (.goto l) T' h' ρ' a2 w2 hag hx' hs' hE2, fun k' hk => harr k' (by simp [gotoIn, hk])⟩
      intro fr kk cs
      obtain ⟨e3, a3, w3, g1, g2⟩ := key F T h ρ a w (fun _ _ => rfl) hx hs (Ext.refl _ _ _) fr kk cs
      exact ⟨e3, a3, w3, g1, .of_steps (.one step_loop) g2⟩
    | scope u =>
      simp only [den, withJ, ifH_eq] at hx
      have hMn : ∀ F', MonoE (hand (asgn u).length (labelsOf u) (asgn u) (scopeN F' (asgn u).length (stepS P c nt F D u T k)) k) := by
        have key : ∀ (F' l : Nat) (vs : List Value) (h : AHeap) (x : Value × AHeap), vs.length = (asgn u).length → appN (asgn u).length (scopeN F' (asgn u).length (stepS P c nt F D u T k) l) vs h = some x → h.n ≤ x.2.n := by
          intro F'
          induction F' with
          | zero => intro l vs h x _ hx; exact (none_ok hx).elim
          | succ F' ihF =>
            intro l vs h x hl hx
            rw [scopeN_succ] at hx
            rw [stepS] at hx
            rcases labN_get (n := (asgn u).length) (l := l) (L := (labelsOf u).map fun l' => (l', lamN (asgn u).length fun vs h => match findLabel u l' with
                | some rest => den P c nt F D rest (setAll (asgn u) vs T) h (hand (asgn u).length (labelsOf u) (asgn u) (scopeN F' (asgn u).length (stepS P c nt F D u T k)) k)
                | none => none)) with ⟨f, hf, e⟩ | e
            · rw [e] at hx
              obtain ⟨l', _, e2⟩ := List.mem_map.1 hf
              simp only [Prod.mk.injEq] at e2
              obtain ⟨rfl, rfl⟩ := e2
              rw [appN_lamN _ _ _ _ hl] at hx
              split at hx
              · refine den_mono hm D _ _ h _ x ?_ hx
                intro e T' h x hx
                cases e with
                | goto l2 =>
                  simp only [hand] at hx
                  split at hx
                  · exact ihF l2 _ h x (lenG _ _) hx
                  · cases hx
                | _ => exact hk _ _ _ _ hx
              · cases hx
            · rw [e] at hx
              exact (none_ok hx).elim
        intro F' e T' h x hx
        cases e with
        | goto l2 =>
          simp only [hand] at hx
          split at hx
          · exact key F' l2 _ h x (lenG _ _) hx
          · cases hx
        | _ => exact hk _ _ _ _ hx
      -- from a rest of the scope on
      have key : ∀ (F' : Nat) (rest : Code) (T1 : Tr Value) (h1 : AHeap) (ρ1 : Ren) (a1 : Act) (w1 : World), (∀ i, i ∈ assigned rest → i ∈ assigned u) → (∀ i, i ∉ assigned u → getT T1 i = getT T i) →
          den P c nt F D rest T1 h1 (hand (asgn u).length (labelsOf u) (asgn u) (scopeN F' (asgn u).length (stepS P c nt F D u T k)) k) = some x →
          SR M ρ1 ⟨nt, T1, h1⟩ a1 w1 → Ext ρ ρ1 h h1 w w1 → (Task.within u rest).wp P Q a1 w1 := by
        intro F'
        induction F' with
        | zero =>
          intro rest T1 h1 ρ1 a1 w1 hsub hag1 hx hs1 hE1
          intro b kk cs
          obtain ⟨e2, a2, w2, ⟨e, T', h', ρ', rfl, hag, hx', hs', hE⟩, harr⟩ := ih rest T1 h1 _ x (hMn 0) hx M ρ1 a1 w1 (fun q a' w' => ∃ e T' h' ρ', q = exitOf e ∧ (∀ i, i ∉ assigned u → getT T' i = getT T i) ∧ hand (asgn u).length (labelsOf u) (asgn u) (scopeN 0 (asgn u).length (stepS P c nt F D u T k)) k e T' h' = some x ∧ SR M ρ' ⟨nt, T', h'⟩ a' w' ∧ Ext ρ1 ρ' h1 h' w1 w') hM hs1
            (fun e T' h' ρ' a' w' hag hx' hs' hE => ⟨e, T', h', ρ', rfl, fun i hi => by rw [hag i (fun h => hi (hsub i h)), hag1 i hi], hx', hs', hE⟩) b (.inScope u :: kk) cs
          have hE2 := hE1.trans hs.sim hs1.sim hE
          cases e with
          | normal => exact ⟨.normal, a2, w2, hq .normal T' h' ρ' a2 w2 hag hx' hs' hE2, Steps.trans harr (.one step_inScope)⟩
          | ret => exact ⟨.ret, a2, w2, hq .ret T' h' ρ' a2 w2 hag hx' hs' hE2, harr⟩
          | exit id => exact ⟨.exit id, a2, w2, hq (.exit id) T' h' ρ' a2 w2 hag hx' hs' hE2, fun k' hk => harr k' (by simp [exitTo, hk])⟩
          | goto l =>
            exfalso
            simp only [hand] at hx'
            split at hx'
            · exact (none_ok hx').elim
            · cases hx'
        | succ F' ihF =>
          intro rest T1 h1 ρ1 a1 w1 hsub hag1 hx hs1 hE1
          intro b kk cs
          obtain ⟨e2, a2, w2, ⟨e, T', h', ρ', rfl, hag, hx', hs', hE⟩, harr⟩ := ih rest T1 h1 _ x (hMn (F' + 1)) hx M ρ1 a1 w1 (fun q a' w' => ∃ e T' h' ρ', q = exitOf e ∧ (∀ i, i ∉ assigned u → getT T' i = getT T i) ∧ hand (asgn u).length (labelsOf u) (asgn u) (scopeN (F' + 1) (asgn u).length (stepS P c nt F D u T k)) k e T' h' = some x ∧ SR M ρ' ⟨nt, T', h'⟩ a' w' ∧ Ext ρ1 ρ' h1 h' w1 w') hM hs1
            (fun e T' h' ρ' a' w' hag hx' hs' hE => ⟨e, T', h', ρ', rfl, fun i hi => by rw [hag i (fun h => hi (hsub i h)), hag1 i hi], hx', hs', hE⟩) b (.inScope u :: kk) cs
          have hE2 := hE1.trans hs.sim hs1.sim hE
          cases e with
          | normal => exact ⟨.normal, a2, w2, hq .normal T' h' ρ' a2 w2 hag hx' hs' hE2, Steps.trans harr (.one step_inScope)⟩
          | ret => exact ⟨.ret, a2, w2, hq .ret T' h' ρ' a2 w2 hag hx' hs' hE2, harr⟩
          | exit id => exact ⟨.exit id, a2, w2, hq (.exit id) T' h' ρ' a2 w2 hag hx' hs' hE2, fun k' hk => harr k' (by simp [exitTo, hk])⟩
          | goto l =>
            simp only [hand] at hx'
            split at hx'
            · rw [scopeN_succ] at hx'
              rw [stepS] at hx'
              rcases labN_get (n := (asgn u).length) (l := l) (L := (labelsOf u).map fun l' => (l', lamN (asgn u).length fun vs h => match findLabel u l' with
                  | some rest => den P c nt F D rest (setAll (asgn u) vs T) h (hand (asgn u).length (labelsOf u) (asgn u) (scopeN F' (asgn u).length (stepS P c nt F D u T k)) k)
                  | none => none)) with ⟨f, hf, e⟩ | e
              · rw [e] at hx'
                obtain ⟨l', _, e2⟩ := List.mem_map.1 hf
                simp only [Prod.mk.injEq] at e2
                obtain ⟨rfl, rfl⟩ := e2
                rw [appN_lamN _ _ _ _ (lenG _ _)] at hx'
                split at hx'
                · rename_i rest' hfl
                  have hag0 : ∀ i, i ∉ asgn u → getT T' i = getT T i := fun i hi => hag i fun h => hi (asgn_mem.2 h)
                  obtain ⟨e3, a3, w3, g1, g2⟩ := ihF rest' _ h' ρ' a2 w2 (fun i hi => findLabel_assigned hfl i hi) (fun i hi => by rw [join_alike hag0, hag i hi]) hx' (hs'.alike fun i => join_alike hag0 i) hE2 b kk cs
                  exact ⟨e3, a3, w3, g1, .of_steps (harr _ (by simp [gotoIn, hfl])) g2⟩
                · cases hx'
              · rw [e] at hx'
                exact (none_ok hx').elim
            · cases hx'
      intro fr kk cs
      obtain ⟨e3, a3, w3, g1, g2⟩ := key F u T h ρ a w (fun _ h => h) (fun _ _ => rfl) hx hs (Ext.refl _ _ _) fr kk cs
      exact ⟨e3, a3, w3, g1, .of_steps (.one step_scope) g2⟩
    | rangeFunc f params assign body => simp [den] at hx
    | refuse wy => simp [den] at hx
end
end Go.Proofs.YtolignkahfekbaaGreatDoor
