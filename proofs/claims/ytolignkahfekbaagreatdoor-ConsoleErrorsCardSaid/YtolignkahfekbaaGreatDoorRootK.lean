/- As XRoots; beside it blocks that no call may touch. -/
import Derived.Test.YtolignkahfekbaaGreatDoorRoots
namespace Go.Proofs.YtolignkahfekbaaGreatDoor
open Go Go.RowKit
set_option linter.unusedVariables false
/-- As Rt; the blocks of G hold what G says, and are none of the memory's. -/
structure RtK [Toks] (W : World) (G : List (Nat × Obj)) (R vs : List Value) (h : AHeap) (w : World) : Prop where
  ex : ∃ ρ : Ren, Sim h.n ρ h w ∧ (∀ i l, ρ i = some l → i < h.n) ∧ (∀ i l o, ρ i = some l → h.get i = some o → o.kind ≠ 2 → W.heap.size ≤ l.b ∧ ∀ q ∈ G, l.b ≠ q.1) ∧ LR (VR ρ) R vs
  bel : Below W.heap.size W w
  blk : ∀ q ∈ G, w.heap[q.1]? = some q.2
section
variable [Toks] {W : World} {G : List (Nat × Obj)} {R vs : List Value} {h : AHeap} {w : World} {P : Program} {c : XCall}
theorem Rt.toK (s : Rt W R vs h w) : RtK W [] R vs h w := by
  obtain ⟨⟨ρ, s1, s2, s3, s4⟩, sb⟩ := s
  exact ⟨⟨ρ, s1, s2, fun i l o hl ho hk => ⟨s3 i l o hl ho hk, fun q hq => by cases hq⟩, s4⟩, sb, fun q hq => by cases hq⟩
theorem RtK.lt (s : RtK W G R vs h w) {q : Nat × Obj} (hq : q ∈ G) : q.1 < w.heap.size := (Array.getElem?_eq_some_iff.1 (s.blk q hq)).1
/-- A call that the executor knows. -/
theorem RtK.call (hc : CallOk P c) (hm : CallMono c) {f : FuncId} {args : List Value} {args' : Array Value} {v : Value} {h' : AHeap} (hx : c f args h = some (v, h')) (s : RtK W G R vs h w) (ha : ∀ ρ : Ren, LR (VR ρ) R vs → LR (VR ρ) args args'.toList) :
    Calls P f args' w fun e w' => ∃ v', e = .returned v' ∧ RtK W G (R ++ [v]) (vs ++ [v']) h' w' := by
  have hg := fun q hq => s.lt (q := q) hq
  obtain ⟨⟨ρ, s1, s2, s3, s4⟩, sb, sk⟩ := s
  have hn := hm f args h v h' hx
  obtain ⟨fn, _, _, _, hC⟩ := hc h'.n ρ h w f args args' v h' (s1.raise s2 hn) (Nat.le_refl _) (ha ρ s4) hx
  refine hC.mono ?_
  rintro e w' ⟨ρ', v', rfl, E, S, hv⟩
  have hd : ∀ i l, ρ' i = some l → i < h'.n := by
    intro i l hi
    cases h3 : ρ i with
    | some l2 => exact Nat.lt_of_lt_of_le (s2 _ _ h3) E.n_le
    | none => exact (E.new i l hi h3).2.1
  have hb : Below W.heap.size W w' := by
    refine ⟨E.os.trans sb.os, E.tape.trans sb.tape, E.output.trans sb.output, Nat.le_trans sb.size E.size, fun k hk => ?_⟩
    refine (E.frame k (Nat.lt_of_lt_of_le hk sb.size) fun i l o hi ho hk2 e => ?_).trans (sb.block k hk)
    have := s3 i l o hi ho hk2
    omega
  refine ⟨v', rfl, ⟨ρ', S, hd, fun i l o hl ho hk2 => ?_, LR.append (LR.mono s4 (fun a b hab => VR.mono E.sub hab)) (.cons hv .nil)⟩, hb, fun q hq => ?_⟩
  · rcases E.back (s1.raise s2 hn) S hl ho hk2 with z | ⟨j, l', o', z1, z2, zk, z3⟩
    · exact ⟨Nat.le_trans sb.size z, fun q hq => by have := hg q hq; omega⟩
    · rw [← z3]
      exact s3 j l' o' z1 z2 zk
  · refine (E.frame q.1 (hg q hq) fun i l o hi ho hk2 e => ?_).trans (sk q hq)
    exact (s3 i l o hi ho hk2).2 q hq e
/-- What was laid anew beside it does no harm. -/
theorem RtK.below {w' : World} (s : RtK W G R vs h w) (hk : ∀ i o, h.get i = some o → o.kind ≤ 3) (hb : Below w.heap.size w w') : RtK W G R vs h w' := by
  have hg := fun q hq => s.lt (q := q) hq
  obtain ⟨⟨ρ, s1, s2, s3, s4⟩, sb, sk⟩ := s
  refine ⟨⟨ρ, ⟨fun i o l hi hl => ?_, s1.inj, fun i l hl => ⟨(s1.dom i l hl).1, Nat.lt_of_lt_of_le (s1.dom i l hl).2 hb.size⟩, s1.fresh, s1.le⟩, s2, s3, s4⟩, sb.trans (hb.mono sb.size), fun q hq => (hb.block q.1 (hg q hq)).trans (sk q hq)⟩
  have hh := s1.ok i o l hi hl
  have hlt := (s1.dom i l hl).2
  have e := hb.block l.b hlt
  refine ⟨fun k => ?_, fun k => ?_, fun k => ?_⟩
  · obtain ⟨cs, fz, g1, g2⟩ := hh.cells k
    exact ⟨cs, fz, e.trans g1, g2⟩
  · obtain ⟨es, ck, g1, g2⟩ := hh.map k
    exact ⟨es, ck, e.trans g1, g2⟩
  · have := hk i o hi
    omega
/-- .. and a block of it may be guarded. -/
theorem RtK.guard {w' : World} {A : Nat} {B : Obj} (s : RtK W G R vs h w) (hk : ∀ i o, h.get i = some o → o.kind ≤ 3) (hb : Below w.heap.size w w') (hA : w.heap.size ≤ A) (hB : w'.heap[A]? = some B) : RtK W ((A, B) :: G) R vs h w' := by
  have s' := s.below hk hb
  have hbel := s'.bel
  have hblk := s'.blk
  have hlt := fun q hq => s.lt (q := q) hq
  obtain ⟨⟨ρ, s1, s2, s3, s4⟩, sb, sk⟩ := s
  have hd : ∀ i l, ρ i = some l → l.b < w.heap.size := fun i l hl => (s1.dom i l hl).2
  refine ⟨⟨ρ, ⟨fun i o l hi hl => ?_, s1.inj, fun i l hl => ⟨(s1.dom i l hl).1, Nat.lt_of_lt_of_le (s1.dom i l hl).2 hb.size⟩, s1.fresh, s1.le⟩, s2, fun i l o hl ho hk2 => ⟨(s3 i l o hl ho hk2).1, fun q hq => ?_⟩, s4⟩, hbel, fun q hq => ?_⟩
  · have hh := s1.ok i o l hi hl
    have e := hb.block l.b (hd i l hl)
    refine ⟨fun k => ?_, fun k => ?_, fun k => ?_⟩
    · obtain ⟨cs, fz, g1, g2⟩ := hh.cells k
      exact ⟨cs, fz, e.trans g1, g2⟩
    · obtain ⟨es, ck, g1, g2⟩ := hh.map k
      exact ⟨es, ck, e.trans g1, g2⟩
    · have := hk i o hi
      omega
  · rcases List.mem_cons.1 hq with rfl | hq
    · have := hd i l hl
      show l.b ≠ A
      omega
    · exact (s3 i l o hl ho hk2).2 q hq
  · rcases List.mem_cons.1 hq with rfl | hq
    · exact hB
    · exact hblk q hq
theorem RtK.unguard {q : Nat × Obj} (s : RtK W (q :: G) R vs h w) : RtK W G R vs h w := by
  obtain ⟨⟨ρ, s1, s2, s3, s4⟩, sb, sk⟩ := s
  exact ⟨⟨ρ, s1, s2, fun i l o hl ho hk => ⟨(s3 i l o hl ho hk).1, fun q hq => (s3 i l o hl ho hk).2 q (List.mem_cons_of_mem _ hq)⟩, s4⟩, sb, fun q hq => sk q (List.mem_cons_of_mem _ hq)⟩
/-- The first of the roots alone. -/
theorem RtK.take (s : RtK W G R vs h w) (n : Nat) : RtK W G (R.take n) (vs.take n) h w := by
  obtain ⟨⟨ρ, s1, s2, s3, s4⟩, sb, sk⟩ := s
  refine ⟨⟨ρ, s1, s2, s3, ?_⟩, sb, sk⟩
  clear s1 s2 s3 sb sk
  induction s4 generalizing n with
  | nil => simp; exact .nil
  | cons a _ ih =>
    cases n with
    | zero => exact .nil
    | succ n => exact .cons a (ih n)
/-- What is not looked at any more may be left out, names may be given anew. -/
theorem RtK.norm {R2 : List Value} {h2 : AHeap} {k0 : Nat} {σ : Tr Nat} (hs : sameR R2 h2 k0 σ R h = true) (s : RtK W G R vs h w) : RtK W G R2 vs h2 w := by
  obtain ⟨⟨ρ, sr, sd, so, sv⟩, sb, sk⟩ := s
  obtain ⟨c3, hs⟩ := bAnd_true hs
  obtain ⟨c2, c4⟩ := bAnd_true hs
  generalize hg : oldName k0 σ h2.n h.n = q at c2 c3 c4
  have hup := chkUp_ok c2
  have hinj : ∀ i j, i < h2.n → j < h2.n → q i = q j → i = j := by
    intro i j hi hj e
    rcases Nat.lt_trichotomy i j with h | h | h
    · have := hup i j h (by omega); omega
    · exact h
    · have := hup j i h (by omega); omega
  have hout : ∀ j, h2.n ≤ j → h.n ≤ q j := by
    intro j hj
    rw [← hg]
    unfold oldName
    have : Nat.blt j h2.n = false := by
      rw [Bool.eq_false_iff]
      intro e
      have : j < h2.n := by simp [Nat.blt] at e; omega
      omega
    rw [this]
    exact Nat.le_add_right _ _
  have hdom : ∀ i l, ρ (q i) = some l → i < h2.n := by
    intro i l hi
    rcases Nat.lt_or_ge i h2.n with h | h
    · exact h
    · have := sd _ _ hi
      have := hout i h
      omega
  refine ⟨⟨fun i => ρ (q i), ⟨fun i o l hi hl => ?_, fun i j o o' l l' hi hj hl hl' e => ?_, fun i l hl => ⟨.inl (hdom i l hl), (sr.dom _ _ hl).2⟩, fun i hi => AHeap.get_ge h2 i hi, Nat.le_refl _⟩, hdom, ?_, chkR_ok c3 sv⟩, sb, sk⟩
  · obtain ⟨o1, g1, g2⟩ := chkO_ok c4 i o (AHeap.get_lt hi) hi
    exact (sr.ok _ _ l g1 hl).ren g2
  · obtain ⟨o1, g1, g2⟩ := chkO_ok c4 i o (AHeap.get_lt hi) hi
    obtain ⟨o1', g1', g2'⟩ := chkO_ok c4 j o' (AHeap.get_lt hj) hj
    rcases sr.inj _ _ _ _ _ _ g1 g1' hl hl' e with h | ⟨h, h'⟩
    · exact .inl (hinj i j (AHeap.get_lt hi) (AHeap.get_lt hj) h)
    · simp only [objOk, Bool.and_eq_true] at g2 g2'
      have := Nat.eq_of_beq_eq_true g2.1.1.1.1
      have := Nat.eq_of_beq_eq_true g2'.1.1.1.1
      exact .inr ⟨by omega, by omega⟩
  · intro i l o hl hi hk
    obtain ⟨o1, g1, g2⟩ := chkO_ok c4 i o (AHeap.get_lt hi) hi
    simp only [objOk, Bool.and_eq_true] at g2
    have := Nat.eq_of_beq_eq_true g2.1.1.1.1
    exact so _ l o1 hl g1 (by omega)
/-- A block that the walk itself lays. -/
theorem RtK.push (s : RtK W G R vs h w) {cs : Array Value} {cells : List Value} {e : TypeId} {es cap : Nat} (hsz : cs.size = es * cap) (hrel : ∀ ρ : Ren, LR (VR ρ) R vs → ∀ (k : Nat) (u : Value), cells[k]? = some u → ∃ u', cs[k]? = some u' ∧ VR0 ρ u u') :
    RtK W G (R ++ [.slice (some ⟨h.n, 0, none⟩) cap cap]) (vs ++ [.slice (some ⟨w.heap.size, 0, none⟩) cap cap]) (h.push ⟨cells, e, 0, es⟩) (w.alloc (.cells cs e)) := by
  have hg := fun q hq => s.lt (q := q) hq
  obtain ⟨⟨ρ, s1, s2, s3, s4⟩, sb, sk⟩ := s
  have s1' : Sim (h.n + 1) ρ h w := s1.raise s2 (Nat.le_succ _)
  have S := s1'.push (cap := cap) (w' := w.alloc (.cells cs e)) (cs := cs) (fz := (0, 0)) (Nat.lt_succ_self _) ⟨cells, e, 0, es⟩ rfl rfl (Nat.succ_pos 2) hsz (fun _ => rfl) (fun k _ => by simp) (fun k u hu => hrel ρ s4 k u hu)
  have hle := s1'.le_add (Nat.lt_succ_self _) ⟨w.heap.size, cap, 0⟩
  refine ⟨⟨ρ.add h.n ⟨w.heap.size, cap, 0⟩, S, fun i l hi => ?_, fun i l o hl ho hk => ?_, LR.append (LR.mono s4 (fun a b hab => VR.mono hle hab)) (.cons ?_ .nil)⟩, sb.alloc sb.size _, fun q hq => by show (w.heap.push _)[q.1]? = _; rw [← sk q hq]; simp [Array.getElem?_push, Nat.ne_of_lt (hg q hq)]⟩
  · show i < h.n + 1
    by_cases e : i = h.n
    · omega
    · have := s2 i l (by simpa [Ren.add, e] using hi)
      omega
  · rw [AHeap.get_push] at ho
    by_cases e : i = h.n
    · subst e
      rw [Ren.add_new] at hl
      cases hl
      exact ⟨sb.size, fun q hq => by have := hg q hq; show w.heap.size ≠ q.1; omega⟩
    · rw [if_neg e] at ho
      exact s3 i l o (by simpa [Ren.add, e] using hl) ho hk
  · exact ⟨Nat.le_refl _, ⟨w.heap.size, cap, 0⟩, 0, cap, Ren.add_new _ _ _, rfl, Nat.le_refl _, fun _ => rfl, fun _ => rfl, fun h => absurd rfl h⟩
/-- A root without an address is what it is. -/
theorem RtK.last {v v' : Value} (s : RtK W G (R ++ [v]) (vs ++ [v']) h w) (hf : flat2 v = true) (hl : R.length = vs.length) : v' = v := by
  obtain ⟨⟨ρ, s1, s2, s3, s4⟩, sb, sk⟩ := s
  obtain ⟨b, h1, h2⟩ := s4.get R.length v (by simp)
  rw [hl, List.getElem?_append_right (Nat.le_refl _), Nat.sub_self] at h1
  have : v' = b := by simpa using h1
  subst this
  exact VR.eq hf h2
/-- A pointer among the roots: where it leads, what lies there. -/
theorem RtK.cellK {v' : Value} {id : Nat} {v : Value} {cells : List Value} {e : TypeId} {kd es : Nat} {m : Nat} (hi : h.get id = some ⟨cells, e, kd, es⟩) (hk0 : kd < 2) {j : Nat} (hj : cells[j]? = some v) (hR : R[m]? = some (Value.pointer (some ⟨id, 0, none⟩))) (hv : vs[m]? = some v') (s : RtK W G R vs h w) :
    ∃ a u, v' = .pointer (some ⟨a, 0, none⟩) ∧ w.cell? ⟨a, j, none⟩ = some u ∧ RtK W G (R ++ [v]) (vs ++ [u]) h w := by
  have s0 := s
  obtain ⟨⟨ρ, s1, s2, s3, s4⟩, sb, sk⟩ := s
  obtain ⟨b, hb1, hb2⟩ := s4.get m _ hR
  rw [hv] at hb1
  injection hb1 with hb1
  subst hb1
  have hb3 : (none : Option Nat) = none ∧ ∃ l, ρ id = some l ∧ v' = .pointer (some ⟨l.b, l.o + 0, none⟩) := hb2
  obtain ⟨_, l, hl, rfl⟩ := hb3
  obtain ⟨ds, fz, m1, m2, _, _, m5⟩ := (s1.ok id _ l hi hl).cells (show kd < 3 by omega)
  have ho : l.o = 0 := (m5 (show kd ≠ 2 by omega)).2
  obtain ⟨u', a0, b0⟩ := m2 j v hj
  refine ⟨l.b, u', by rw [ho], ?_, ⟨ρ, s1, s2, s3, LR.append s4 (.cons (VR.of0 b0) .nil)⟩, sb, sk⟩
  rw [ho, Nat.zero_add] at a0
  simpa [World.cell?, m1] using a0
end
end Go.Proofs.YtolignkahfekbaaGreatDoor
