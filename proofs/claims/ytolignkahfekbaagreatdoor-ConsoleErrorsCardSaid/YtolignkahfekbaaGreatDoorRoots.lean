/- Memory that the executor knows, by its roots, at any point of a walk; calls from there. -/
import Derived.Test.YtolignkahfekbaaGreatDoorNarrow
namespace Go.Proofs.YtolignkahfekbaaGreatDoor
open Go Go.RowKit
set_option linter.unusedVariables false
/-- Memory 'h' lies in w; its roots 'R' are the values 'vs'; all that is named is new since W. -/
structure Rt [Toks] (W : World) (R vs : List Value) (h : AHeap) (w : World) : Prop where
  ex : ∃ ρ : Ren, Sim h.n ρ h w ∧ (∀ i l, ρ i = some l → i < h.n) ∧ (∀ i l o, ρ i = some l → h.get i = some o → o.kind ≠ 2 → W.heap.size ≤ l.b) ∧ LR (VR ρ) R vs
  bel : Below W.heap.size W w
section
variable [Toks] {W : World} {R vs : List Value} {h : AHeap} {w : World} {P : Program} {c : XCall}
theorem Rt.start (W : World) : Rt W [] [] h0 W :=
  ⟨⟨fun _ => none, ⟨fun i o l h1 h2 => (by cases h2), fun i j o o' l l' _ _ h3 => (by cases h3), fun i l h1 => (by cases h1), fun i _ => AHeap.get_ge h0 i (Nat.zero_le _), Nat.le_refl _⟩, fun i l h1 => (by cases h1), fun i l o h1 => (by cases h1), .nil⟩, Below.refl _ _⟩
/-- A call that the executor knows. -/
theorem Rt.call (hc : CallOk P c) (hm : CallMono c) {f : FuncId} {args : List Value} {args' : Array Value} {v : Value} {h' : AHeap} (hx : c f args h = some (v, h')) (s : Rt W R vs h w) (ha : ∀ ρ : Ren, LR (VR ρ) R vs → LR (VR ρ) args args'.toList) :
    Calls P f args' w fun e w' => ∃ v', e = .returned v' ∧ Rt W (R ++ [v]) (vs ++ [v']) h' w' ∧ Below W.heap.size W w' := by
  obtain ⟨⟨ρ, s1, s2, s3, s4⟩, sb⟩ := s
  have hn := hm f args h v h' hx
  obtain ⟨fn, _, _, _, hC⟩ := hc h'.n ρ h w f args args' v h' (s1.raise s2 hn) (Nat.le_refl _) (ha ρ s4) hx
  refine hC.mono ?_
  rintro e w' ⟨ρ', v', rfl, E, S, hv⟩
  have hd : ∀ i l, ρ' i = some l → i < h'.n := by
    intro i l hi
    cases h3 : ρ i with
    | some l2 => exact Nat.lt_of_lt_of_le (s2 _ _ h3) E.n_le
    | none => exact (E.new i l hi h3).2.1
  have hb : Below W.heap.size W w' := by
    refine ⟨E.os.trans sb.os, E.tape.trans sb.tape, E.output.trans sb.output, Nat.le_trans sb.size E.size, fun k hk => ?_⟩
    refine (E.frame k (Nat.lt_of_lt_of_le hk sb.size) fun i l o hi ho hk2 e => ?_).trans (sb.block k hk)
    have := s3 i l o hi ho hk2
    omega
  refine ⟨v', rfl, ⟨⟨ρ', S, hd, fun i l o hl ho hk2 => ?_, LR.append (LR.mono s4 (fun a b hab => VR.mono E.sub hab)) (.cons hv .nil)⟩, hb⟩, hb⟩
  rcases E.back (s1.raise s2 hn) S hl ho hk2 with z | ⟨j, l', o', z1, z2, zk, z3⟩
  · exact Nat.le_trans sb.size z
  · rw [← z3]
    exact s3 j l' o' z1 z2 zk
/-- What was laid anew beside it does no harm. -/
theorem Rt.below {w' : World} (s : Rt W R vs h w) (hk : ∀ i o, h.get i = some o → o.kind ≤ 3) (hb : Below w.heap.size w w') : Rt W R vs h w' := by
  obtain ⟨⟨ρ, s1, s2, s3, s4⟩, sb⟩ := s
  refine ⟨⟨ρ, ⟨fun i o l hi hl => ?_, s1.inj, fun i l hl => ⟨(s1.dom i l hl).1, Nat.lt_of_lt_of_le (s1.dom i l hl).2 hb.size⟩, s1.fresh, s1.le⟩, s2, s3, s4⟩, sb.trans (hb.mono sb.size)⟩
  have hh := s1.ok i o l hi hl
  have hlt := (s1.dom i l hl).2
  have e := hb.block l.b hlt
  refine ⟨fun k => ?_, fun k => ?_, fun k => ?_⟩
  · obtain ⟨cs, fz, g1, g2⟩ := hh.cells k
    exact ⟨cs, fz, e.trans g1, g2⟩
  · obtain ⟨es, ck, g1, g2⟩ := hh.map k
    exact ⟨es, ck, e.trans g1, g2⟩
  · have := hk i o hi
    omega
/-- The first of the roots alone. -/
theorem Rt.take (s : Rt W R vs h w) (n : Nat) : Rt W (R.take n) (vs.take n) h w := by
  obtain ⟨⟨ρ, s1, s2, s3, s4⟩, sb⟩ := s
  refine ⟨⟨ρ, s1, s2, s3, ?_⟩, sb⟩
  clear s1 s2 s3 sb
  induction s4 generalizing n with
  | nil => simp; exact .nil
  | cons a _ ih =>
    cases n with
    | zero => exact .nil
    | succ n => exact .cons a (ih n)
noncomputable def chkR (g : Nat → Nat) : List Value → List Value → Bool
  | [], [] => true
  | a :: l, b :: m => bAnd (eqV2 (ren2 g a) b) (chkR g l m)
  | _, _ => false
/-- The roots and the memory (R, h) are R2, h2 under the names of σ, and more. -/
noncomputable def sameR (R2 : List Value) (h2 : AHeap) (k0 : Nat) (σ : Tr Nat) (R : List Value) (h : AHeap) : Bool :=
  bAnd (chkR (oldName k0 σ h2.n h.n) R2 R) (bAnd (chkUp (oldName k0 σ h2.n h.n) (h2.n - 1)) (chkO (oldName k0 σ h2.n h.n) h2 h h2.n))
theorem chkR_ok {ρ : Ren} {g : Nat → Nat} : ∀ {R2 R vs : List Value}, chkR g R2 R = true → LR (VR ρ) R vs → LR (VR fun i => ρ (g i)) R2 vs
  | [], [], vs, _, h => by cases h; exact .nil
  | a :: l, b :: m, vs, hc, h => by
    obtain ⟨h1, h2⟩ := bAnd_true hc
    cases h with
    | cons ha hr =>
      refine .cons ?_ (chkR_ok h2 hr)
      have := eqV2_eq h1
      rw [← this] at ha
      exact ha.ren
  | [], _ :: _, vs, hc, _ => by cases hc
  | _ :: _, [], vs, hc, _ => by cases hc
/-- What is not looked at any more may be left out, names may be given anew. -/
theorem Rt.norm {R2 : List Value} {h2 : AHeap} {k0 : Nat} {σ : Tr Nat} (hs : sameR R2 h2 k0 σ R h = true) (s : Rt W R vs h w) : Rt W R2 vs h2 w := by
  obtain ⟨⟨ρ, sr, sd, so, sv⟩, sb⟩ := s
  obtain ⟨c3, hs⟩ := bAnd_true hs
  obtain ⟨c2, c4⟩ := bAnd_true hs
  generalize hg : oldName k0 σ h2.n h.n = g at c2 c3 c4
  have hup := chkUp_ok c2
  have hinj : ∀ i j, i < h2.n → j < h2.n → g i = g j → i = j := by
    intro i j hi hj e
    rcases Nat.lt_trichotomy i j with h | h | h
    · have := hup i j h (by omega); omega
    · exact h
    · have := hup j i h (by omega); omega
  have hout : ∀ j, h2.n ≤ j → h.n ≤ g j := by
    intro j hj
    rw [← hg]
    unfold oldName
    have : Nat.blt j h2.n = false := by
      rw [Bool.eq_false_iff]
      intro e
      have : j < h2.n := by simp [Nat.blt] at e; omega
      omega
    rw [this]
    exact Nat.le_add_right _ _
  have hdom : ∀ i l, ρ (g i) = some l → i < h2.n := by
    intro i l hi
    rcases Nat.lt_or_ge i h2.n with h | h
    · exact h
    · have := sd _ _ hi
      have := hout i h
      omega
  refine ⟨⟨fun i => ρ (g i), ⟨fun i o l hi hl => ?_, fun i j o o' l l' hi hj hl hl' e => ?_, fun i l hl => ⟨.inl (hdom i l hl), (sr.dom _ _ hl).2⟩, fun i hi => AHeap.get_ge h2 i hi, Nat.le_refl _⟩, hdom, ?_, chkR_ok c3 sv⟩, sb⟩
  · obtain ⟨o1, g1, g2⟩ := chkO_ok c4 i o (AHeap.get_lt hi) hi
    exact (sr.ok _ _ l g1 hl).ren g2
  · obtain ⟨o1, g1, g2⟩ := chkO_ok c4 i o (AHeap.get_lt hi) hi
    obtain ⟨o1', g1', g2'⟩ := chkO_ok c4 j o' (AHeap.get_lt hj) hj
    rcases sr.inj _ _ _ _ _ _ g1 g1' hl hl' e with h | ⟨h, h'⟩
    · exact .inl (hinj i j (AHeap.get_lt hi) (AHeap.get_lt hj) h)
    · simp only [objOk, Bool.and_eq_true] at g2 g2'
      have := Nat.eq_of_beq_eq_true g2.1.1.1.1
      have := Nat.eq_of_beq_eq_true g2'.1.1.1.1
      exact .inr ⟨by omega, by omega⟩
  · intro i l o hl hi hk
    obtain ⟨o1, g1, g2⟩ := chkO_ok c4 i o (AHeap.get_lt hi) hi
    simp only [objOk, Bool.and_eq_true] at g2
    have := Nat.eq_of_beq_eq_true g2.1.1.1.1
    exact so _ l o1 hl g1 (by omega)
/-- A block that the walk itself lays. -/
theorem Rt.push (s : Rt W R vs h w) {cs : Array Value} {cells : List Value} {e : TypeId} {es cap : Nat} (hsz : cs.size = es * cap) (hrel : ∀ ρ : Ren, LR (VR ρ) R vs → ∀ (k : Nat) (u : Value), cells[k]? = some u → ∃ u', cs[k]? = some u' ∧ VR0 ρ u u') :
    Rt W (R ++ [.slice (some ⟨h.n, 0, none⟩) cap cap]) (vs ++ [.slice (some ⟨w.heap.size, 0, none⟩) cap cap]) (h.push ⟨cells, e, 0, es⟩) (w.alloc (.cells cs e)) := by
  obtain ⟨⟨ρ, s1, s2, s3, s4⟩, sb⟩ := s
  have s1' : Sim (h.n + 1) ρ h w := s1.raise s2 (Nat.le_succ _)
  have S := s1'.push (cap := cap) (w' := w.alloc (.cells cs e)) (cs := cs) (fz := (0, 0)) (Nat.lt_succ_self _) ⟨cells, e, 0, es⟩ rfl rfl (Nat.succ_pos 2) hsz (fun _ => rfl) (fun k _ => by simp) (fun k u hu => hrel ρ s4 k u hu)
  have hle := s1'.le_add (Nat.lt_succ_self _) ⟨w.heap.size, cap, 0⟩
  refine ⟨⟨ρ.add h.n ⟨w.heap.size, cap, 0⟩, S, fun i l hi => ?_, fun i l o hl ho hk => ?_, LR.append (LR.mono s4 (fun a b hab => VR.mono hle hab)) (.cons ?_ .nil)⟩, sb.alloc sb.size _⟩
  · show i < h.n + 1
    by_cases e : i = h.n
    · omega
    · have := s2 i l (by simpa [Ren.add, e] using hi)
      omega
  · rw [AHeap.get_push] at ho
    by_cases e : i = h.n
    · subst e
      rw [Ren.add_new] at hl
      cases hl
      exact sb.size
    · rw [if_neg e] at ho
      exact s3 i l o (by simpa [Ren.add, e] using hl) ho hk
  · exact ⟨Nat.le_refl _, ⟨w.heap.size, cap, 0⟩, 0, cap, Ren.add_new _ _ _, rfl, Nat.le_refl _, fun _ => rfl, fun _ => rfl, fun h => absurd rfl h⟩
/-- A tuple among the roots, part by part. -/
theorem Rt.untuple {l : List Value} {v' : Value} (hl : ∀ u ∈ l, ∀ q, u ≠ .tuple q) (s : Rt W (R ++ [.tuple l.toArray]) (vs ++ [v']) h w) : ∃ l' : List Value, v' = .tuple l'.toArray ∧ Rt W (R ++ l) (vs ++ l') h w := by
  obtain ⟨⟨ρ, s1, s2, s3, s4⟩, sb⟩ := s
  have key : ∀ {R vs : List Value}, LR (VR ρ) (R ++ [.tuple l.toArray]) (vs ++ [v']) → LR (VR ρ) R vs ∧ VR ρ (.tuple l.toArray) v' := by
    intro R
    induction R with
    | nil =>
      intro vs hh
      cases vs with
      | nil => cases hh with | cons a _ => exact ⟨.nil, a⟩
      | cons x vs =>
        cases hh with
        | cons _ hr => cases vs <;> cases hr
    | cons r R ih =>
      intro vs hh
      cases vs with
      | nil =>
        cases hh with
        | cons _ hr => cases R <;> cases hr
      | cons x vs =>
        cases hh with
        | cons a hr =>
          obtain ⟨h1, h2⟩ := ih hr
          exact ⟨.cons a h1, h2⟩
  obtain ⟨k1, k2⟩ := key s4
  obtain ⟨vs', rfl, hv⟩ := k2
  refine ⟨vs'.toList, by simp, ⟨⟨ρ, s1, s2, s3, LR.append k1 ?_⟩, sb⟩⟩
  have : ∀ {l m : List Value}, (∀ u ∈ l, ∀ q, u ≠ .tuple q) → LR (VR1 ρ) l m → LR (VR ρ) l m := by
    intro l
    induction l with
    | nil => intro m _ hm; cases hm; exact .nil
    | cons a l ih =>
      intro m hu hm
      cases hm with
      | cons h1 h2 =>
        refine .cons ?_ (ih (fun u hh => hu u (by simp [hh])) h2)
        unfold VR
        split
        · rename_i vs0
          exact absurd rfl (hu (.tuple vs0) (by simp) vs0)
        · exact h1
  exact this hl (by simpa using hv)
/-- The cells of a slice's block. -/
theorem Rt.cellsAt {v' : Value} {id : Nat} {cells : List Value} {e : TypeId} {es n c : Nat} (hi : h.get id = some ⟨cells, e, 0, es⟩) (hf : ∀ v ∈ cells, flat0 v = true) (hn : 0 < n) {sp : Option Nat} (hc0 : 0 < c)
    (hv : ∃ k : Nat, R[k]? = some (Value.slice (some ⟨id, 0, sp⟩) n c) ∧ vs[k]? = some v') (s : Rt W R vs h w) : ∃ g c', v' = .slice (some ⟨g, 0, none⟩) n c' ∧ (∀ (k : Nat) (u : Value), cells[k]? = some u → w.cell? ⟨g, k, none⟩ = some u) := by
  obtain ⟨⟨ρ, s1, s2, s3, s4⟩, sb⟩ := s
  obtain ⟨k, hk, hk'⟩ := hv
  obtain ⟨b, hb1, hb2⟩ := s4.get k _ hk
  rw [hk'] at hb1
  injection hb1 with hb1
  subst hb1
  obtain ⟨hnc, l, o', c', hl, rfl, hcc, hoff, _, _⟩ := hb2
  have hoff := hoff (by omega)
  obtain ⟨ds, fz, m1, m2, _, _, m5⟩ := (s1.ok id _ l hi hl).cells (Nat.succ_pos 2)
  have ho : l.o = 0 := (m5 (show (0 : Nat) ≠ 2 from by decide)).2
  have : o' = 0 := by rw [hoff, ho]; rfl
  subst this
  refine ⟨l.b, c', rfl, fun j u hu => ?_⟩
  obtain ⟨u', a0, b0⟩ := m2 j u hu
  have e0 := VR0.eq (hf u (List.mem_of_getElem? hu)) b0
  subst e0
  rw [ho, Nat.zero_add] at a0
  simpa [World.cell?, m1] using a0
/-- A root without an address is what it is. -/
theorem Rt.last {v v' : Value} (s : Rt W (R ++ [v]) (vs ++ [v']) h w) (hf : flat2 v = true) (hl : R.length = vs.length) : v' = v := by
  obtain ⟨⟨ρ, s1, s2, s3, s4⟩, sb⟩ := s
  obtain ⟨b, h1, h2⟩ := s4.get R.length v (by simp)
  rw [hl, List.getElem?_append_right (Nat.le_refl _), Nat.sub_self] at h1
  have : v' = b := by simpa using h1
  subst this
  exact VR.eq hf h2
end
end Go.Proofs.YtolignkahfekbaaGreatDoor
