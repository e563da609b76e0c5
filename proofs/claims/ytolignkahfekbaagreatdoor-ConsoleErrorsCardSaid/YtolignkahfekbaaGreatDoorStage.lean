/- Runs in stages: what memory and frame are at a point of a function, what is not reached any more left out, names given anew. -/
import Derived.Test.YtolignkahfekbaaGreatDoorDenFun
namespace Go.Proofs.YtolignkahfekbaaGreatDoor
open Go Go.RowKit
noncomputable def bAnd (a b : Bool) : Bool := Bool.rec (motive := fun _ => Bool) false b a
theorem bAnd_true {a b : Bool} (h : bAnd a b = true) : a = true ∧ b = true := by
  cases a
  · cases h
  · exact ⟨rfl, h⟩
/-! Values under other names. -/
def ren00 (g : Nat → Nat) : Value → Value
  | .pointer (some a) => .pointer (some ⟨g a.block, a.off, a.spot⟩)
  | .slice (some a) n c => .slice (some ⟨g a.block, a.off, a.spot⟩) n c
  | .map (some r) => .map (some (g r))
  | v => v
def ren0 (g : Nat → Nat) : Value → Value
  | .func fn f c => .func fn ⟨f.toList.map (ren00 g)⟩ ⟨c.toList.map (ren00 g)⟩
  | v => ren00 g v
def ren1 (g : Nat → Nat) : Value → Value
  | .agg cs => .agg ⟨cs.toList.map (ren0 g)⟩
  | v => ren0 g v
def ren2 (g : Nat → Nat) : Value → Value
  | .tuple cs => .tuple ⟨cs.toList.map (ren1 g)⟩
  | v => ren1 g v
def eqV0 : Value → Value → Bool
  | .func (.func f) a b, .func (.func f') a' b' => Nat.beq f f' && beqIL a.toList a'.toList && beqIL b.toList b'.toList
  | a, b => beqI a b
def eqL0 : List Value → List Value → Bool
  | [], [] => true
  | a :: r, b :: s => eqV0 a b && eqL0 r s
  | _, _ => false
def eqV1 : Value → Value → Bool
  | .agg a, .agg b => eqL0 a.toList b.toList
  | a, b => eqV0 a b
def eqL1 : List Value → List Value → Bool
  | [], [] => true
  | a :: r, b :: s => eqV1 a b && eqL1 r s
  | _, _ => false
def eqV2 : Value → Value → Bool
  | .tuple a, .tuple b => eqL1 a.toList b.toList
  | a, b => eqV1 a b
def eqL2 : List Value → List Value → Bool
  | [], [] => true
  | a :: r, b :: s => eqV2 a b && eqL2 r s
  | _, _ => false
theorem eqV0_eq {a b : Value} (h : eqV0 a b = true) : a = b := by
  unfold eqV0 at h
  split at h
  · rename_i f a b f' a' b'
    simp only [Bool.and_eq_true] at h
    rw [Nat.eq_of_beq_eq_true h.1.1, Array.toList_inj.1 (beqIL_eq h.1.2), Array.toList_inj.1 (beqIL_eq h.2)]
  · exact beqI_eq h
theorem eqL0_eq : ∀ {l m : List Value}, eqL0 l m = true → l = m
  | [], [], _ => rfl
  | a :: l, b :: m, h => by
    simp only [eqL0, Bool.and_eq_true] at h
    rw [eqV0_eq h.1, eqL0_eq h.2]
  | [], _ :: _, h => by simp [eqL0] at h
  | _ :: _, [], h => by simp [eqL0] at h
theorem eqV1_eq {a b : Value} (h : eqV1 a b = true) : a = b := by
  unfold eqV1 at h
  split at h
  · rw [Array.toList_inj.1 (eqL0_eq h)]
  · exact eqV0_eq h
theorem eqL1_eq : ∀ {l m : List Value}, eqL1 l m = true → l = m
  | [], [], _ => rfl
  | a :: l, b :: m, h => by
    simp only [eqL1, Bool.and_eq_true] at h
    rw [eqV1_eq h.1, eqL1_eq h.2]
  | [], _ :: _, h => by simp [eqL1] at h
  | _ :: _, [], h => by simp [eqL1] at h
theorem eqV2_eq {a b : Value} (h : eqV2 a b = true) : a = b := by
  unfold eqV2 at h
  split at h
  · rw [Array.toList_inj.1 (eqL1_eq h)]
  · exact eqV1_eq h
theorem eqL2_eq : ∀ {l m : List Value}, eqL2 l m = true → l = m
  | [], [], _ => rfl
  | a :: l, b :: m, h => by
    simp only [eqL2, Bool.and_eq_true] at h
    rw [eqV2_eq h.1, eqL2_eq h.2]
  | [], _ :: _, h => by simp [eqL2] at h
  | _ :: _, [], h => by simp [eqL2] at h
section
variable [Toks] {ρ : Ren} {g : Nat → Nat}
omit [Toks] in
theorem LR.ren {R R' : Value → Value → Prop} {f : Value → Value} (hr : ∀ v v', R (f v) v' → R' v v') : ∀ {l m : List Value}, LR R (l.map f) m → LR R' l m
  | [], _, .nil => .nil
  | _ :: _, _, .cons h1 h2 => .cons (hr _ _ h1) (LR.ren hr h2)
theorem VR00.ren {v v' : Value} (h : VR00 ρ (ren00 g v) v') : VR00 (fun i => ρ (g i)) v v' := by
  unfold ren00 at h
  split at h
  · exact h
  · exact h
  · exact h
  · unfold VR00 at *
    split at h
    · exact (‹∀ b : Addr, Value.pointer (some _) = Value.pointer (some b) → False› _ rfl).elim
    · exact (‹∀ (b : Addr) (n c : Nat), Value.slice (some _) _ _ = Value.slice (some b) n c → False› _ _ _ rfl).elim
    · exact (‹∀ b : Nat, Value.map (some _) = Value.map (some b) → False› _ rfl).elim
    · exact h
    · exact h
    · exact h
    · exact h
theorem VR0.ren {v v' : Value} (h : VR0 ρ (ren0 g v) v') : VR0 (fun i => ρ (g i)) v v' := by
  unfold ren0 at h
  split at h
  · obtain ⟨f', c', h1, h2, h3⟩ := h
    exact ⟨f', c', h1, LR.ren (fun _ _ => VR00.ren) h2, LR.ren (fun _ _ => VR00.ren) h3⟩
  · rename_i hne
    have e : VR0 ρ (ren00 g v) v' = VR00 ρ (ren00 g v) v' := by
      unfold VR0
      split
      · rename_i he
        unfold ren00 at he
        split at he
        · cases he
        · cases he
        · cases he
        · exact absurd he (hne _ _ _)
      · rfl
    rw [e] at h
    have e2 : VR0 (fun i => ρ (g i)) v v' = VR00 (fun i => ρ (g i)) v v' := by
      unfold VR0
      split
      · exact absurd rfl (hne _ _ _)
      · rfl
    rw [e2]
    exact h.ren
omit [Toks] in
theorem ren0_agg {v : Value} {cs : Array Value} (h : ren0 g v = .agg cs) : v = .agg cs := by
  unfold ren0 at h
  split at h
  · cases h
  · unfold ren00 at h
    split at h
    · cases h
    · cases h
    · cases h
    · exact h
theorem VR1.ren {v v' : Value} (h : VR1 ρ (ren1 g v) v') : VR1 (fun i => ρ (g i)) v v' := by
  unfold ren1 at h
  split at h
  · obtain ⟨c', h1, h2⟩ := h
    exact ⟨c', h1, LR.ren (fun _ _ => VR0.ren) h2⟩
  · rename_i hne
    have e : VR1 ρ (ren0 g v) v' = VR0 ρ (ren0 g v) v' := by
      unfold VR1
      split
      · rename_i he
        exact absurd (ren0_agg he) (hne _)
      · rfl
    rw [e] at h
    have e2 : VR1 (fun i => ρ (g i)) v v' = VR0 (fun i => ρ (g i)) v v' := by
      unfold VR1
      split
      · exact absurd rfl (hne _)
      · rfl
    rw [e2]
    exact h.ren
omit [Toks] in
theorem ren1_tuple {v : Value} {cs : Array Value} (h : ren1 g v = .tuple cs) : v = .tuple cs := by
  unfold ren1 at h
  split at h
  · cases h
  · unfold ren0 at h
    split at h
    · cases h
    · unfold ren00 at h
      split at h
      · cases h
      · cases h
      · cases h
      · exact h
theorem VR.ren {v v' : Value} (h : VR ρ (ren2 g v) v') : VR (fun i => ρ (g i)) v v' := by
  unfold ren2 at h
  split at h
  · obtain ⟨c', h1, h2⟩ := h
    exact ⟨c', h1, LR.ren (fun _ _ => VR1.ren) h2⟩
  · rename_i hne
    have e : VR ρ (ren1 g v) v' = VR1 ρ (ren1 g v) v' := by
      unfold VR
      split
      · rename_i he
        exact absurd (ren1_tuple he) (hne _)
      · rfl
    rw [e] at h
    have e2 : VR (fun i => ρ (g i)) v v' = VR1 (fun i => ρ (g i)) v v' := by
      unfold VR
      split
      · exact absurd rfl (hne _)
      · rfl
    rw [e2]
    exact h.ren
/-- A cell under its old name. -/
theorem VR0.ren2 {v v' : Value} (h : VR0 ρ (ren2 g v) v') : VR0 (fun i => ρ (g i)) v v' := by
  unfold Go.Proofs.YtolignkahfekbaaGreatDoor.ren2 at h
  split at h
  · exact absurd h.1 (by simp [flat0])
  · unfold ren1 at h
    split at h
    · exact absurd h.1 (by simp [flat0])
    · exact h.ren
theorem EntR.ren {v : Value} {e : MapEntry} (h : EntR ρ (ren2 g v) e) : EntR (fun i => ρ (g i)) v e := by
  obtain ⟨a, b, h1, h2, h3⟩ := h
  unfold Go.Proofs.YtolignkahfekbaaGreatDoor.ren2 at h1
  split at h1
  · rename_i cs
    injection h1 with h1
    have h4 : cs.toList.map (ren1 g) = [a, b] := by
      have := congrArg Array.toList h1
      simpa using this
    match hc : cs.toList with
    | [x, y] =>
      rw [hc] at h4
      simp only [List.map_cons, List.map_nil, List.cons.injEq, and_true] at h4
      obtain ⟨rfl, rfl⟩ := h4
      exact ⟨x, y, by rw [show cs = #[x, y] from Array.toList_inj.1 (by rw [hc])], h2.ren, h3.ren⟩
    | [] => rw [hc] at h4; simp at h4
    | [_] => rw [hc] at h4; simp at h4
    | _ :: _ :: _ :: _ => rw [hc] at h4; simp at h4
  · rename_i hne
    exact absurd (ren1_tuple h1) (hne _)
end
/-! Memory under other names. -/
def objOk (g : Nat → Nat) (o2 o : AObj) : Bool := Nat.beq o2.kind o.kind && Nat.beq o2.es o.es && Nat.beq o2.elem o.elem && Nat.blt o2.kind 4 && eqL2 (o2.cells.map (ren2 g)) o.cells
/-- The name it had: its own below k0, by the table for those below n2; none at all (from n on) for the others. -/
def oldName (k0 : Nat) (σ : Tr Nat) (n2 n : Nat) (j : Nat) : Nat := bif Nat.blt j n2 then (bif Nat.blt j k0 then j else (match σ.get (j - k0) with
  | some k => k
  | none => n + j)) else n + j
noncomputable def chkL (g : Nat → Nat) (T : Tr Value) (l : List Value) : Nat → Bool := List.rec (motive := fun _ => Nat → Bool) (fun _ => true) (fun v _ ih i => bAnd (eqV2 (ren2 g v) (getT T i)) (ih (i + 1))) l
noncomputable def chkO (g : Nat → Nat) (h2 h : AHeap) (n : Nat) : Bool := Nat.rec (motive := fun _ => Bool) true (fun j ih => bAnd (match h2.get j with
  | none => true
  | some o2 => match h.get (g j) with
    | none => false
    | some o => objOk g o2 o) ih) n
noncomputable def chkUp (g : Nat → Nat) (n : Nat) : Bool := Nat.rec (motive := fun _ => Bool) true (fun j ih => bAnd (Nat.blt (g j) (g (j + 1))) ih) n
/-- The frame and the memory (T, h) are l2, h2 under the names of σ, and more. -/
noncomputable def sameS (nt : Nat) (l2 : List Value) (h2 : AHeap) (k0 : Nat) (σ : Tr Nat) (T : Tr Value) (h : AHeap) : Bool :=
  bAnd (Nat.beq l2.length nt) (bAnd (chkUp (oldName k0 σ h2.n h.n) (h2.n - 1)) (bAnd (chkL (oldName k0 σ h2.n h.n) T l2 0) (chkO (oldName k0 σ h2.n h.n) h2 h h2.n)))
theorem chkL_ok {g : Nat → Nat} {T : Tr Value} : ∀ {l : List Value} {i : Nat}, chkL g T l i = true → ∀ t v, l[t]? = some v → ren2 g v = getT T (i + t)
  | [], _, _, t, v, h => by simp at h
  | a :: l, i, h, t, v, hv => by
    obtain ⟨h1, h2⟩ := bAnd_true (a := eqV2 (ren2 g a) (getT T i)) (b := chkL g T l (i + 1)) h
    cases t with
    | zero => simp at hv; subst hv; exact eqV2_eq h1
    | succ t =>
      have := chkL_ok h2 t v (by simpa using hv)
      rw [this]
      congr 1
      omega
theorem chkO_ok {g : Nat → Nat} {h2 h : AHeap} : ∀ {n : Nat}, chkO g h2 h n = true → ∀ j o2, j < n → h2.get j = some o2 → ∃ o, h.get (g j) = some o ∧ objOk g o2 o = true
  | 0, _, j, _, hj, _ => absurd hj (by omega)
  | n + 1, hc, j, o2, hj, ho => by
    obtain ⟨h1, h3⟩ := bAnd_true (a := match h2.get n with
      | none => true
      | some o2 => match h.get (g n) with
        | none => false
        | some o => objOk g o2 o) (b := chkO g h2 h n) hc
    by_cases e : j = n
    · subst e
      rw [ho] at h1
      simp only at h1
      split at h1
      · cases h1
      · rename_i o hg
        exact ⟨o, hg, h1⟩
    · exact chkO_ok h3 j o2 (by omega) ho
theorem chkUp_ok {g : Nat → Nat} : ∀ {n : Nat}, chkUp g n = true → ∀ i j, i < j → j ≤ n → g i < g j
  | 0, _, i, j, h1, h2 => by omega
  | n + 1, hc, i, j, hij, hj => by
    obtain ⟨h1, h3⟩ := bAnd_true (a := Nat.blt (g n) (g (n + 1))) (b := chkUp g n) hc
    have hlt : g n < g (n + 1) := by simp [Nat.blt] at h1; omega
    by_cases e : j = n + 1
    · subst e
      by_cases e2 : i = n
      · subst e2; exact hlt
      · exact Nat.lt_trans (chkUp_ok h3 i n (by omega) (Nat.le_refl _)) hlt
    · exact chkUp_ok h3 i j hij (by omega)
/-- A point of a function: frame and memory; all that is named is new since W, but what was handed in. -/
structure Stg [Toks] (nt : Nat) (W : World) (T : Tr Value) (h : AHeap) (a : Act) (w : World) : Prop where
  ex : ∃ ρ : Ren, SR h.n ρ ⟨nt, T, h⟩ a w ∧ (∀ i l, ρ i = some l → i < h.n) ∧ (∀ i l o, ρ i = some l → h.get i = some o → o.kind ≠ 2 → W.heap.size ≤ l.b)
  bel : Below W.heap.size W w
section
variable [Toks] {nt : Nat} {W : World} {T : Tr Value} {h : AHeap} {a : Act} {w : World}
theorem Sim.raise {M M' : Nat} {ρ : Ren} (s : Sim M ρ h w) (hd : ∀ i l, ρ i = some l → i < h.n) (hM : h.n ≤ M') : Sim M' ρ h w :=
  ⟨s.ok, s.inj, fun i l hi => ⟨.inl (hd i l hi), (s.dom i l hi).2⟩, s.fresh, hM⟩
theorem Held.ren {ρ : Ren} {g : Nat → Nat} {o o2 : AObj} {l : Loc} (hh : Held ρ o l w) (hk : objOk g o2 o = true) : Held (fun i => ρ (g i)) o2 l w := by
  simp only [objOk, Bool.and_eq_true] at hk
  obtain ⟨⟨⟨⟨k1, k2⟩, k3⟩, k4⟩, k5⟩ := hk
  have k1 := Nat.eq_of_beq_eq_true k1
  have k2 := Nat.eq_of_beq_eq_true k2
  have k3 := Nat.eq_of_beq_eq_true k3
  have k4 : o2.kind < 4 := by simp [Nat.blt] at k4; omega
  have k5 := eqL2_eq k5
  refine ⟨fun hk => ?_, fun hk => ?_, fun hk => by omega⟩
  · obtain ⟨cs, fz, h1, h2, h3, h4, h5⟩ := hh.cells (by omega)
    refine ⟨cs, fz, by rw [k3]; exact h1, fun k u hu => ?_, fun e => h3 (by omega), fun e => h4 (by omega), fun e => by rw [k2]; exact h5 (by omega)⟩
    obtain ⟨u', g1, g2⟩ := h2 k (ren2 g u) (by rw [← k5, List.getElem?_map, hu]; rfl)
    exact ⟨u', g1, g2.ren2⟩
  · obtain ⟨es, ck, h1, h2, h3⟩ := hh.map (by omega)
    rw [← k5] at h2
    have key : ∀ {l : List Value} {m : List MapEntry}, LR (EntR ρ) (l.map (ren2 g)) m → LR (EntR (fun i => ρ (g i))) l m := by
      intro l
      induction l with
      | nil => intro m hm; cases hm; exact .nil
      | cons x l ih => intro m hm; cases hm with | cons a b => exact .cons a.ren (ih b)
    exact ⟨es, ck, h1, key h2, h3⟩
/-- What is not looked at any more may be left out, names may be given anew. -/
theorem Stg.norm {l2 : List Value} {T2 : Tr Value} {h2 : AHeap} {k0 : Nat} {σ : Tr Nat} (hT : T2 = argsTr l2 0 .nil) (hs : sameS nt l2 h2 k0 σ T h = true) (s : Stg nt W T h a w) : Stg nt W T2 h2 a w := by
  obtain ⟨⟨ρ, sr, sd, so⟩, sb⟩ := s
  obtain ⟨c1, hs⟩ := bAnd_true hs
  obtain ⟨c2, hs⟩ := bAnd_true hs
  obtain ⟨c3, c4⟩ := bAnd_true hs
  have c1 := Nat.eq_of_beq_eq_true c1
  generalize hg : oldName k0 σ h2.n h.n = g at c2 c3 c4
  have hup := chkUp_ok c2
  have hinj : ∀ i j, i < h2.n → j < h2.n → g i = g j → i = j := by
    intro i j hi hj e
    rcases Nat.lt_trichotomy i j with h | h | h
    · have := hup i j h (by omega); omega
    · exact h
    · have := hup j i h (by omega); omega
  have hout : ∀ j, h2.n ≤ j → h.n ≤ g j := by
    intro j hj
    rw [← hg]
    unfold oldName
    have : Nat.blt j h2.n = false := by
      rw [Bool.eq_false_iff]
      intro e
      have : j < h2.n := by simp [Nat.blt] at e; omega
      omega
    rw [this]
    exact Nat.le_add_right _ _
  have hdom : ∀ i l, ρ (g i) = some l → i < h2.n := by
    intro i l hi
    rcases Nat.lt_or_ge i h2.n with h | h
    · exact h
    · have := sd _ _ hi
      have := hout i h
      omega
  refine ⟨⟨fun i => ρ (g i), ⟨fun t => ?_, sr.nt, sr.df, ?_⟩, hdom, ?_⟩, sb⟩
  · simp only
    rw [hT, argsTr_get]
    simp only [Nat.not_lt_zero, if_false, Nat.zero_add, Nat.sub_zero, Tr.get]
    by_cases ht : t < l2.length
    · rw [if_pos ht, List.getElem?_eq_getElem ht]
      have := chkL_ok c3 t _ (List.getElem?_eq_getElem ht)
      rw [Nat.zero_add] at this
      have h1 := sr.tr t
      simp only at h1
      rw [show (T.get t).getD undef = getT T t from rfl, ← this] at h1
      exact h1.ren
    · rw [if_neg ht]
      have : a.tmps.getD t undef = undef := by
        have h1 : a.tmps.size = nt := sr.nt
        rw [Array.getD_eq_getD_getElem?, Array.getElem?_eq_none (by omega)]
        rfl
      rw [this]
      exact VR.flat rfl
  · refine ⟨fun i o l hi hl => ?_, fun i j o o' l l' hi hj hl hl' e => ?_, fun i l hl => ⟨.inl (hdom i l hl), (sr.sim.dom _ _ hl).2⟩, fun i hi => AHeap.get_ge h2 i hi, Nat.le_refl _⟩
    · obtain ⟨o1, g1, g2⟩ := chkO_ok c4 i o (AHeap.get_lt hi) hi
      exact (sr.sim.ok _ _ l g1 hl).ren g2
    · obtain ⟨o1, g1, g2⟩ := chkO_ok c4 i o (AHeap.get_lt hi) hi
      obtain ⟨o1', g1', g2'⟩ := chkO_ok c4 j o' (AHeap.get_lt hj) hj
      rcases sr.sim.inj _ _ _ _ _ _ g1 g1' hl hl' e with h | ⟨h, h'⟩
      · exact .inl (hinj i j (AHeap.get_lt hi) (AHeap.get_lt hj) h)
      · simp only [objOk, Bool.and_eq_true] at g2 g2'
        have := Nat.eq_of_beq_eq_true g2.1.1.1.1
        have := Nat.eq_of_beq_eq_true g2'.1.1.1.1
        exact .inr ⟨by omega, by omega⟩
  · intro i l o hl hi hk
    obtain ⟨o1, g1, g2⟩ := chkO_ok c4 i o (AHeap.get_lt hi) hi
    simp only [objOk, Bool.and_eq_true] at g2
    have := Nat.eq_of_beq_eq_true g2.1.1.1.1
    exact so _ l o1 hl g1 (by omega)
variable {P : Program} {c : XCall} {F : Nat}
/-- A piece of code, run. -/
theorem Stg.run (hc : CallOk P c) (hm : CallMono c) (hmix : P.follows .mixedOrders = true) {D : Nat} {code : Code} {k : KE} {x : Value × AHeap} {Q : Exit → Act → World → Prop} (hk : MonoE k) (hx : den P c nt F D code T h k = some x) (s : Stg nt W T h a w)
    (hq : ∀ e T' h' a' w', k e T' h' = some x → Stg nt W T' h' a' w' → Q (exitOf e) a' w') : code.wp P Q a w := by
  obtain ⟨⟨ρ, s1, s2, s3⟩, s4⟩ := s
  have hn := den_mono hm D code T h k x hk hx
  have sr : SR x.2.n ρ ⟨nt, T, h⟩ a w := ⟨s1.tr, s1.nt, s1.df, s1.sim.raise s2 hn⟩
  refine den_ok hc hm hmix D code T h k x hk hx x.2.n ρ a w Q (Nat.le_refl _) sr fun e T' h' ρ' a' w' _ hx' hs' hE => ?_
  have hd : ∀ i l, ρ' i = some l → i < h'.n := by
    intro i l hi
    cases h3 : ρ i with
    | some l2 => exact Nat.lt_of_lt_of_le (s2 _ _ h3) hE.n_le
    | none => exact (hE.new i l hi h3).2.1
  refine hq e T' h' a' w' hx' ⟨⟨ρ', ⟨hs'.tr, hs'.nt, hs'.df, hs'.sim.raise hd (Nat.le_refl _)⟩, hd, fun i l o hl ho hk2 => ?_⟩, ?_⟩
  · rcases hE.back sr.sim hs'.sim hl ho hk2 with z | ⟨j, l', o', z1, z2, zk, z3⟩
    · exact Nat.le_trans s4.size z
    · rw [← z3]
      exact s3 j l' o' z1 z2 zk
  · refine ⟨hE.os.trans s4.os, hE.tape.trans s4.tape, hE.output.trans s4.output, Nat.le_trans s4.size hE.size, fun k hk => ?_⟩
    refine (hE.frame k (Nat.lt_of_lt_of_le hk s4.size) fun i l o hi ho hk2 e => ?_).trans (s4.block k hk)
    have := s3 i l o hi ho hk2
    omega
/-- The end of a function that answers true. -/
theorem Stg.done {fn : Func} {e : XExit} (he : e = .normal ∨ e = .ret) (hy : yes (denRes P T h fn.results.toList fun l => endV l h) = true) (s : Stg nt W T h a w) : bodyPost P fn (fun e w' => e = .returned (.bool true) ∧ Below W.heap.size W w') (exitOf e) a w := by
  unfold yes at hy
  split at hy
  · rename_i h' hx
    obtain ⟨⟨ρ, s1, _, _⟩, s4⟩ := s
    obtain ⟨_, hres⟩ := denEnd_ok (nt := nt) (P := P) hx
    obtain ⟨v', g1, g2⟩ := resX_ok s1 hres
    have e1 := g2.bool
    subst e1
    rcases he with rfl | rfl
    · exact ⟨s1.df, _, g1, rfl, s4⟩
    · exact ⟨s1.df, _, g1, rfl, s4⟩
  · cases hy
end
/-! The points of a function's body, and runs from one to another. -/
/-- At the i-th part of the body; at the head of the loop that is its i-th part. -/
inductive Pt where
  | sp (i : Nat)
  | lp (i : Nat)
def Pt.same : Pt → Pt → Bool
  | .sp i, .sp j => Nat.beq i j
  | .lp i, .lp j => Nat.beq i j
  | _, _ => false
theorem Pt.same_eq {p q : Pt} (h : p.same q = true) : p = q := by
  unfold Pt.same at h
  split at h
  · rw [Nat.eq_of_beq_eq_true h]
  · rw [Nat.eq_of_beq_eq_true h]
  · cases h
/-- The parts of a body, one behind the other. -/
def flatC : Code → List Code → List Code
  | .seq a b, l => flatC a (flatC b l)
  | c, l => c :: l
theorem drop_succ {α : Type} : ∀ (i : Nat) (c : List α) (x : α) (r : List α), c.drop i = x :: r → c.drop (i + 1) = r
  | 0, c, x, r, h => by
    have h : c = x :: r := h
    subst h
    rfl
  | i + 1, c, x, r, h => by
    cases c with
    | nil => simp at h
    | cons u v => exact drop_succ i v x r h
/-- The loop that a part is. -/
def loopAt (c : Code) : Option (Nat × Code) := match c with
  | .block id y => match y with
    | .loop b => some (id, b)
    | _ => none
  | _ => none
section
variable (P : Program) (c : XCall) (nt F D : Nat) (fn : Func) (body : List Code)
noncomputable def kRet (T : Tr Value) (h : AHeap) : R := Bool.rec (motive := fun _ => R) none (some (undef, h)) (yes (denRes P T h fn.results.toList fun l => endV l h))
/-- n steps from a point on: parts of the body, rounds of its loops. -/
noncomputable def go : Nat → Pt → Tr Value → AHeap → (Pt → Tr Value → AHeap → R) → R
  | 0, p, T, h, k => k p T h
  | n + 1, .sp i, T, h, k => match body.drop i with
    | [] => kRet P fn T h
    | x :: _ => match loopAt x with
      | some _ => go n (.lp i) T h k
      | none => den P c nt F D x T h fun e T' h' => match e with
        | .normal => go n (.sp (i + 1)) T' h' k
        | .ret => kRet P fn T' h'
        | _ => none
  | n + 1, .lp i, T, h, k => match body.drop i with
    | [] => none
    | x :: _ => match loopAt x with
      | some (id, b) => den P c nt F D b T h fun e T' h' => match e with
        | .normal => go n (.lp i) T' h' k
        | .exit id' => Bool.rec (motive := fun _ => R) none (go n (.sp (i + 1)) T' h' k) (Nat.beq id' id)
        | .ret => kRet P fn T' h'
        | _ => none
      | none => none
noncomputable def kStop (p : Pt) (l2 : List Value) (h2 : AHeap) (k0 : Nat) (σ : Tr Nat) (q : Pt) (T : Tr Value) (h : AHeap) : R :=
  Bool.rec (motive := fun _ => R) none (some (undef, h)) (bAnd (p.same q) (sameS nt l2 h2 k0 σ T h))
def isS : R → Bool
  | some _ => true
  | none => false
end
section
variable {P : Program} {c : XCall} {nt F D : Nat} {fn : Func} {body : List Code}
theorem brec_some {b : Bool} {r : R} {y : Value × AHeap} (h : (Bool.rec (motive := fun _ => R) none r b : R) = some y) : b = true ∧ r = some y := by
  cases b
  · cases h
  · exact ⟨rfl, h⟩
theorem kRet_some {T : Tr Value} {h : AHeap} {x : Value × AHeap} (hx : kRet P fn T h = some x) : yes (denRes P T h fn.results.toList fun l => endV l h) = true ∧ x = (undef, h) := by
  obtain ⟨h1, h2⟩ := brec_some hx
  injection h2 with h2
  exact ⟨h1, h2.symm⟩
theorem kRet_mono {T : Tr Value} {h : AHeap} {x : Value × AHeap} (hx : kRet P fn T h = some x) : h.n ≤ x.2.n := by
  rw [(kRet_some hx).2]; exact Nat.le_refl _
theorem go_mono (hm : CallMono c) {k : Pt → Tr Value → AHeap → R} (hk : ∀ p T h x, k p T h = some x → h.n ≤ x.2.n) : ∀ (n : Nat) (p : Pt) (T : Tr Value) (h : AHeap) (x : Value × AHeap), go P c nt F D fn body n p T h k = some x → h.n ≤ x.2.n
  | 0, p, T, h, x, hx => hk p T h x hx
  | n + 1, .sp i, T, h, x, hx => by
    simp only [go] at hx
    split at hx
    · exact kRet_mono hx
    · split at hx
      · exact go_mono hm hk n _ T h x hx
      · refine den_mono hm D _ T h _ x ?_ hx
        intro e T' h' x hx
        cases e with
        | normal => exact go_mono hm hk n _ T' h' x hx
        | ret => exact kRet_mono hx
        | _ => cases hx
  | n + 1, .lp i, T, h, x, hx => by
    simp only [go] at hx
    split at hx
    · cases hx
    · split at hx
      · refine den_mono hm D _ T h _ x ?_ hx
        intro e T' h' x hx
        cases e with
        | normal => exact go_mono hm hk n _ T' h' x hx
        | ret => exact kRet_mono hx
        | exit id => exact go_mono hm hk n _ T' h' x (brec_some hx).2
        | _ => cases hx
      · cases hx
variable [Toks]
abbrev Fin (P : Program) (fn : Func) (W : World) : Exit → Act → World → Prop := bodyPost P fn (fun e w' => e = .returned (.bool true) ∧ Below W.heap.size W w')
/-- The rest of a body. -/
def wpL (P : Program) (Q : Exit → Act → World → Prop) : List Code → Act → World → Prop
  | [], a, w => Q .normal a w
  | c :: l, a, w => c.wp P (Exit.then (wpL P Q l) Q) a w
omit [Toks] in
theorem wpL_flat {Q : Exit → Act → World → Prop} : ∀ (c : Code) (l : List Code) (a : Act) (w : World), wpL P Q (flatC c l) a w → c.wp P (Exit.then (wpL P Q l) Q) a w := by
  intro c
  induction c with
  | seq u v ihu ihv =>
    intro l a w h
    refine wp_seq (wp_mono (ihu _ a w h) fun e a' w' he => ?_)
    cases e with
    | normal => exact ihv l a' w' he
    | _ => exact he
  | _ => intro l a w h; exact h
omit [Toks] in
theorem wpL_body {Q : Exit → Act → World → Prop} {c : Code} {a : Act} {w : World} (h : wpL P Q (flatC c []) a w) : c.wp P Q a w :=
  wp_mono (wpL_flat c [] a w h) fun e a' w' he => by cases e <;> exact he
/-- From a point on the function comes to its end, and answers true. -/
def wpAt (P : Program) (fn : Func) (body : List Code) (W : World) : Pt → Act → World → Prop
  | .sp i, a, w => wpL P (Fin P fn W) (body.drop i) a w
  | .lp i, a, w => ∀ x r id b, body.drop i = x :: r → loopAt x = some (id, b) → (Task.looping b).wp P (Exit.inBlock id (Exit.then (wpL P (Fin P fn W) r) (Fin P fn W))) a w
omit [Toks] in
theorem loopAt_some {u : Code} {id : Nat} {b : Code} (h : loopAt u = some (id, b)) : u = .block id (.loop b) := by
  unfold loopAt at h
  split at h
  · split at h
    · injection h with h
      injection h with h1 h2
      subst h1 h2
      rfl
    · cases h
  · cases h
theorem go_ok (hc : CallOk P c) (hm : CallMono c) (hmix : P.follows .mixedOrders = true) {W : World} {k : Pt → Tr Value → AHeap → R} (hk : ∀ p T h x, k p T h = some x → h.n ≤ x.2.n) {x : Value × AHeap}
    (hq : ∀ p T h a w, k p T h = some x → Stg nt W T h a w → wpAt P fn body W p a w) :
    ∀ (n : Nat) (p : Pt) (T : Tr Value) (h : AHeap) (a : Act) (w : World), go P c nt F D fn body n p T h k = some x → Stg nt W T h a w → wpAt P fn body W p a w
  | 0, p, T, h, a, w, hx, s => hq p T h a w hx s
  | n + 1, .sp i, T, h, a, w, hx, s => by
    simp only [go] at hx
    show wpL P (Fin P fn W) (body.drop i) a w
    split at hx
    · rename_i hd
      rw [hd]
      exact s.done (.inl rfl) (kRet_some hx).1
    · rename_i y r hd
      rw [hd]
      split at hx
      · rename_i idb hl
        obtain ⟨id, b⟩ := idb
        have ih := go_ok hc hm hmix hk hq n (.lp i) T h a w hx s y r id b hd hl
        rw [loopAt_some hl]
        refine wp_block ?_
        intro fr kk cs
        obtain ⟨e3, a3, w3, g1, g2⟩ := ih fr kk cs
        exact ⟨e3, a3, w3, g1, .of_steps (.one step_loop) g2⟩
      · refine s.run hc hm hmix ?_ hx fun e T' h' a' w' hx' s' => ?_
        · intro e T' h' x hx
          cases e with
          | normal => exact go_mono hm hk n _ T' h' x hx
          | ret => exact kRet_mono hx
          | _ => cases hx
        · cases e with
          | normal =>
            have this : wpL P (Fin P fn W) (body.drop (i + 1)) a' w' := go_ok hc hm hmix hk hq n (.sp (i + 1)) T' h' a' w' hx' s'
            rw [drop_succ i body _ r hd] at this
            exact this
          | ret => exact s'.done (.inr rfl) (kRet_some hx').1
          | exit id => cases hx'
          | goto l => cases hx'
  | n + 1, .lp i, T, h, a, w, hx, s => by
    simp only [go] at hx
    split at hx
    · cases hx
    · rename_i y r hd
      split at hx
      · rename_i id b hl
        intro y' r' id' b' hd' hl'
        rw [hd] at hd'
        injection hd' with e1 e2
        subst e1 e2
        rw [hl] at hl'
        injection hl' with hl'
        injection hl' with e1 e2
        subst e1 e2
        intro fr kk cs
        obtain ⟨e2, a2, w2, ⟨e, T', h', rfl, hx', s'⟩, harr⟩ := s.run (Q := fun q a' w' => ∃ e T' h', q = exitOf e ∧ (match e with
            | .normal => go P c nt F D fn body n (.lp i) T' h' k
            | .exit id' => Bool.rec (motive := fun _ => R) none (go P c nt F D fn body n (.sp (i + 1)) T' h' k) (Nat.beq id' id)
            | .ret => kRet P fn T' h'
            | _ => none) = some x ∧ Stg nt W T' h' a' w') hc hm hmix (by
          intro e T' h' x hx
          cases e with
          | normal => exact go_mono hm hk n _ T' h' x hx
          | ret => exact kRet_mono hx
          | exit id => exact go_mono hm hk n _ T' h' x (brec_some hx).2
          | _ => cases hx) hx (fun e T' h' a' w' hx' s' => ⟨e, T', h', rfl, (by cases e <;> exact hx'), s'⟩) fr (.inLoop b :: kk) cs
        cases e with
        | normal =>
          obtain ⟨e3, a3, w3, g1, g2⟩ := go_ok hc hm hmix hk hq n (.lp i) T' h' a2 w2 hx' s' y r id b hd hl fr kk cs
          exact ⟨e3, a3, w3, g1, .of_steps (Steps.trans harr (.one step_inLoop)) g2⟩
        | ret => exact ⟨.ret, a2, w2, s'.done (.inr rfl) (kRet_some hx').1, harr⟩
        | exit id2 =>
          obtain ⟨h1, h2⟩ := brec_some hx'
          have h1 := Nat.eq_of_beq_eq_true h1
          subst h1
          have g : wpL P (Fin P fn W) (body.drop (i + 1)) a2 w2 := go_ok hc hm hmix hk hq n (.sp (i + 1)) T' h' a2 w2 h2 s'
          rw [drop_succ i body _ r hd] at g
          refine ⟨.exit id2, a2, w2, ?_, fun k' hk => harr k' (by simp [exitTo, hk])⟩
          simp only [Exit.inBlock, if_true]
          exact g
        | goto l => cases hx'
      · cases hx
/-- One stage. -/
theorem stage (hc : CallOk P c ∧ CallMono c) (hmix : P.follows .mixedOrders = true) {W : World} {n : Nat} {p p2 : Pt} {T1 : Tr Value} {h1 : AHeap} {l2 : List Value} {h2 : AHeap} {k0 : Nat} {σ : Tr Nat}
    (hx : isS (go P c nt F D fn body n p T1 h1 (kStop nt p2 l2 h2 k0 σ)) = true) (H : ∀ a w, Stg nt W (argsTr l2 0 .nil) h2 a w → wpAt P fn body W p2 a w) (a : Act) (w : World) (s : Stg nt W T1 h1 a w) : wpAt P fn body W p a w := by
  unfold isS at hx
  split at hx
  · rename_i x hg
    refine go_ok hc.1 hc.2 hmix (fun p T h x hx => ?_) (fun p' T' h' a' w' hx' s' => ?_) n p T1 h1 a w hg s
    · have := (brec_some hx).2
      injection this with this
      rw [← this]
      exact Nat.le_refl _
    · obtain ⟨g1, _⟩ := brec_some hx'
      obtain ⟨g1, g2⟩ := bAnd_true g1
      have := Pt.same_eq g1
      subst this
      exact H a' w' (s'.norm rfl g2)
  · cases hx
/-- The last stage. -/
theorem stage_last (hc : CallOk P c ∧ CallMono c) (hmix : P.follows .mixedOrders = true) {W : World} {n : Nat} {p : Pt} {T1 : Tr Value} {h1 : AHeap}
    (hx : isS (go P c nt F D fn body n p T1 h1 fun _ _ _ => none) = true) (a : Act) (w : World) (s : Stg nt W T1 h1 a w) : wpAt P fn body W p a w := by
  unfold isS at hx
  split at hx
  · rename_i x hg
    exact go_ok (k := fun _ _ _ => none) hc.1 hc.2 hmix (fun p T h x hx => nomatch hx) (fun p' T' h' a' w' hx' s' => nomatch hx') n p T1 h1 a w hg s
  · cases hx
/-- A function by stages: its beginning. -/
theorem top_stage {f : FuncId} (hfn : P.funcs[f]? = some fn) {code : Code} (hb : fn.body = some code) (hbody : body = flatC code []) {args : List Value} {args' : Array Value} (W : World) (ha : LR (VR fun _ => none) args args'.toList) (hnt : nt = args.length + (fn.ntmps - args.length))
    (H : ∀ a w, Stg nt W (argsTr args 0 .nil) h0 a w → wpAt P fn body W (.sp 0) a w) : Calls P f args' W fun e w' => e = .returned (.bool true) ∧ Below W.heap.size W w' := by
  refine calls_of_wp hfn hb ?_
  have s : Sim h0.n (fun _ => none) h0 W := ⟨fun i o l h1 h2 => (by cases h2), fun i j o o' l l' _ _ h3 => (by cases h3), fun i l h1 => (by cases h1), fun i _ => AHeap.get_ge h0 i (Nat.zero_le _), Nat.le_refl _⟩
  have hen := enter_ok s ha fn.ntmps
  rw [← hnt] at hen
  subst hbody
  exact wpL_body (H _ _ ⟨⟨_, hen, fun i l h1 => (by cases h1), fun i l o h1 => (by cases h1)⟩, Below.refl _ _⟩)
end
end Go.Proofs.YtolignkahfekbaaGreatDoor
