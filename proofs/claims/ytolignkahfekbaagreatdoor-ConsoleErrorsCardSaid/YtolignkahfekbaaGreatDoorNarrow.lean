/- Runs in stages: what a number that is not known may be, narrowed between two stages; literals of states. -/
import Derived.Test.YtolignkahfekbaaGreatDoorStage
namespace Go.Proofs.YtolignkahfekbaaGreatDoor
open Go Go.RowKit
/-! Token t is from lo to hi. -/
def nrw00 (t lo hi : Nat) : Value → Value
  | .iface t' (.iface a (.iface b (.int k c))) => bif Nat.beq t' t then (bif Nat.beq (Nat.max a lo) (Nat.min b hi) then .int k (c + ((Nat.max a lo : Nat) : Int)) else .iface t' (.iface (Nat.max a lo) (.iface (Nat.min b hi) (.int k c)))) else .iface t' (.iface a (.iface b (.int k c)))
  | v => v
def nrw0 (t lo hi : Nat) : Value → Value
  | .func fn f c => .func fn ⟨f.toList.map (nrw00 t lo hi)⟩ ⟨c.toList.map (nrw00 t lo hi)⟩
  | v => nrw00 t lo hi v
def nrw1 (t lo hi : Nat) : Value → Value
  | .agg cs => .agg ⟨cs.toList.map (nrw0 t lo hi)⟩
  | v => nrw0 t lo hi v
def nrw2 (t lo hi : Nat) : Value → Value
  | .tuple cs => .tuple ⟨cs.toList.map (nrw1 t lo hi)⟩
  | v => nrw1 t lo hi v
section
variable [Toks] {ρ : Ren} {t lo hi : Nat}
omit [Toks] in
theorem LR.map2 {R R' : Value → Value → Prop} (f : Value → Value) (hr : ∀ v v', R v v' → R' (f v) v') : ∀ {l m : List Value}, LR R l m → LR R' (l.map f) m
  | [], _, .nil => .nil
  | _ :: _, _, .cons h1 h2 => .cons (hr _ _ h1) (LR.map2 f hr h2)
theorem VR00.nrw (h1 : (lo : Int) ≤ Toks.A t) (h2 : Toks.A t ≤ (hi : Int)) {v v' : Value} (h : VR00 ρ v v') : VR00 ρ (nrw00 t lo hi v) v' := by
  unfold nrw00
  split
  · rename_i t' a b k c
    obtain ⟨rfl, g1, g2⟩ := h
    cases e : Nat.beq t' t with
    | false => exact ⟨rfl, g1, g2⟩
    | true =>
      have := Nat.eq_of_beq_eq_true e
      subst this
      have k1 : ((Nat.max a lo : Nat) : Int) ≤ Toks.A t' := by
        show ((max a lo : Nat) : Int) ≤ _
        omega
      have k2 : Toks.A t' ≤ ((Nat.min b hi : Nat) : Int) := by
        show _ ≤ ((min b hi : Nat) : Int)
        omega
      cases e2 : Nat.beq (Nat.max a lo) (Nat.min b hi) with
      | false => exact ⟨rfl, k1, k2⟩
      | true =>
        have e3 := Nat.eq_of_beq_eq_true e2
        have : Toks.A t' = ((Nat.max a lo : Nat) : Int) := by
          rw [← e3] at k2
          omega
        rw [this, Int.add_comm]
        exact ⟨rfl, rfl⟩
  · exact h
omit [Toks] in
theorem nrw00_func {v : Value} {fn : Fn} {f c : Array Value} (h : nrw00 t lo hi v = .func fn f c) : v = .func fn f c := by
  unfold nrw00 at h
  split at h
  · rename_i t' a b k c
    cases e : Nat.beq t' t <;> rw [e] at h
    · cases h
    · cases e2 : Nat.beq (Nat.max a lo) (Nat.min b hi) <;> simp only [e2, cond_true, cond_false] at h <;> cases h
  · exact h
theorem VR0.nrw (h1 : (lo : Int) ≤ Toks.A t) (h2 : Toks.A t ≤ (hi : Int)) {v v' : Value} (h : VR0 ρ v v') : VR0 ρ (nrw0 t lo hi v) v' := by
  unfold VR0 at h
  split at h
  · obtain ⟨f', c', e, g1, g2⟩ := h
    exact ⟨f', c', e, LR.map2 (nrw00 t lo hi) (fun _ _ => VR00.nrw h1 h2) g1, LR.map2 (nrw00 t lo hi) (fun _ _ => VR00.nrw h1 h2) g2⟩
  · rename_i hne
    have e0 : nrw0 t lo hi v = nrw00 t lo hi v := by
      unfold nrw0
      split
      · exact absurd rfl (hne _ _ _)
      · rfl
    rw [e0]
    have := h.nrw h1 h2
    unfold VR0
    split
    · rename_i he
      exact absurd (nrw00_func he) (hne _ _ _)
    · exact this
omit [Toks] in
theorem nrw00_agg {v : Value} {cs : Array Value} (h : nrw00 t lo hi v = .agg cs) : v = .agg cs := by
  unfold nrw00 at h
  split at h
  · rename_i t' a b k c
    cases e : Nat.beq t' t <;> rw [e] at h
    · cases h
    · cases e2 : Nat.beq (Nat.max a lo) (Nat.min b hi) <;> simp only [e2, cond_true, cond_false] at h <;> cases h
  · exact h
omit [Toks] in
theorem nrw00_tuple {v : Value} {cs : Array Value} (h : nrw00 t lo hi v = .tuple cs) : v = .tuple cs := by
  unfold nrw00 at h
  split at h
  · rename_i t' a b k c
    cases e : Nat.beq t' t <;> rw [e] at h
    · cases h
    · cases e2 : Nat.beq (Nat.max a lo) (Nat.min b hi) <;> simp only [e2, cond_true, cond_false] at h <;> cases h
  · exact h
omit [Toks] in
theorem nrw0_agg {v : Value} {cs : Array Value} (h : nrw0 t lo hi v = .agg cs) : v = .agg cs := by
  unfold nrw0 at h
  split at h
  · cases h
  · exact nrw00_agg h
omit [Toks] in
theorem nrw0_tuple {v : Value} {cs : Array Value} (h : nrw0 t lo hi v = .tuple cs) : v = .tuple cs := by
  unfold nrw0 at h
  split at h
  · cases h
  · exact nrw00_tuple h
theorem VR1.nrw (h1 : (lo : Int) ≤ Toks.A t) (h2 : Toks.A t ≤ (hi : Int)) {v v' : Value} (h : VR1 ρ v v') : VR1 ρ (nrw1 t lo hi v) v' := by
  unfold VR1 at h
  split at h
  · obtain ⟨c', e, g1⟩ := h
    exact ⟨c', e, LR.map2 (nrw0 t lo hi) (fun _ _ => VR0.nrw h1 h2) g1⟩
  · rename_i hne
    have e0 : nrw1 t lo hi v = nrw0 t lo hi v := by
      unfold nrw1
      split
      · exact absurd rfl (hne _)
      · rfl
    rw [e0]
    have := h.nrw h1 h2
    unfold VR1
    split
    · rename_i he
      exact absurd (nrw0_agg he) (hne _)
    · exact this
omit [Toks] in
theorem nrw1_tuple {v : Value} {cs : Array Value} (h : nrw1 t lo hi v = .tuple cs) : v = .tuple cs := by
  unfold nrw1 at h
  split at h
  · cases h
  · exact nrw0_tuple h
theorem VR.nrw (h1 : (lo : Int) ≤ Toks.A t) (h2 : Toks.A t ≤ (hi : Int)) {v v' : Value} (h : VR ρ v v') : VR ρ (nrw2 t lo hi v) v' := by
  unfold VR at h
  split at h
  · obtain ⟨c', e, g1⟩ := h
    exact ⟨c', e, LR.map2 (nrw1 t lo hi) (fun _ _ => VR1.nrw h1 h2) g1⟩
  · rename_i hne
    have e0 : nrw2 t lo hi v = nrw1 t lo hi v := by
      unfold nrw2
      split
      · exact absurd rfl (hne _)
      · rfl
    rw [e0]
    have := h.nrw h1 h2
    unfold VR
    split
    · rename_i he
      exact absurd (nrw1_tuple he) (hne _)
    · exact this
theorem VR0.nrw2 (h1 : (lo : Int) ≤ Toks.A t) (h2 : Toks.A t ≤ (hi : Int)) {v v' : Value} (h : VR0 ρ v v') : VR0 ρ (nrw2 t lo hi v) v' := by
  unfold Go.Proofs.YtolignkahfekbaaGreatDoor.nrw2
  split
  · exact absurd h.1 (by simp [flat0])
  · unfold nrw1
    split
    · exact absurd h.1 (by simp [flat0])
    · exact h.nrw h1 h2
theorem EntR.nrw (h1 : (lo : Int) ≤ Toks.A t) (h2 : Toks.A t ≤ (hi : Int)) {v : Value} {e : MapEntry} (h : EntR ρ v e) : EntR ρ (nrw2 t lo hi v) e := by
  obtain ⟨a, b, rfl, g2, g3⟩ := h
  exact ⟨nrw1 t lo hi a, nrw1 t lo hi b, rfl, g2.nrw h1 h2, g3.nrw h1 h2⟩
end
/-! Memory. -/
noncomputable def trMap (f : AObj → AObj) (t : Tr AObj) : Tr AObj := Tr.rec (motive := fun _ => Tr AObj) .nil (fun v _ _ l r => .node (Option.rec (motive := fun _ => Option AObj) none (fun x => some (f x)) v) l r) t
theorem trMap_get {f : AObj → AObj} : ∀ (t : Tr AObj) (i : Nat), (trMap f t).get i = (t.get i).map f
  | .nil, i => rfl
  | .node v l r, i => by
    show (Tr.node (Option.rec none (fun x => some (f x)) v) (trMap f l) (trMap f r)).get i = _
    cases i with
    | zero => cases v <;> rfl
    | succ k =>
      show (bif Nat.beq (k % 2) 0 then (trMap f l).get (k / 2) else (trMap f r).get (k / 2)) = (bif Nat.beq (k % 2) 0 then l.get (k / 2) else r.get (k / 2)).map f
      cases Nat.beq (k % 2) 0
      · exact trMap_get r _
      · exact trMap_get l _
def nrwO (t lo hi : Nat) (o : AObj) : AObj := ⟨o.cells.map (nrw2 t lo hi), o.elem, o.kind, o.es⟩
noncomputable def nrwH (t lo hi : Nat) (h : AHeap) : AHeap := ⟨h.n, trMap (nrwO t lo hi) h.t⟩
theorem nrwH_get {t lo hi : Nat} {h : AHeap} {i : Nat} : (nrwH t lo hi h).get i = (h.get i).map (nrwO t lo hi) := by
  unfold AHeap.get nrwH
  simp only [trMap_get]
  split <;> rfl
section
variable [Toks] {nt : Nat} {W : World} {l : List Value} {h : AHeap} {a : Act} {w : World} {t lo hi : Nat}
theorem Held.nrw {ρ : Ren} {o : AObj} {lc : Loc} (h1 : (lo : Int) ≤ Toks.A t) (h2 : Toks.A t ≤ (hi : Int)) (hk : o.kind < 4) (hh : Held ρ o lc w) : Held ρ (nrwO t lo hi o) lc w := by
  refine ⟨fun hk => ?_, fun hk => ?_, fun hk => by simp only [nrwO] at hk; omega⟩
  · obtain ⟨cs, fz, g1, g2, g3, g4, g5⟩ := hh.cells hk
    refine ⟨cs, fz, g1, fun k u hu => ?_, g3, g4, g5⟩
    simp only [nrwO, List.getElem?_map, Option.map_eq_some_iff] at hu
    obtain ⟨u0, hu0, rfl⟩ := hu
    obtain ⟨u', k1, k2⟩ := g2 k u0 hu0
    exact ⟨u', k1, k2.nrw2 h1 h2⟩
  · obtain ⟨es, ck, g1, g2, g3⟩ := hh.map hk
    have key : ∀ {l : List Value} {m : List MapEntry}, LR (EntR ρ) l m → LR (EntR ρ) (l.map (nrw2 t lo hi)) m := by
      intro l m hm
      induction hm with
      | nil => exact .nil
      | cons x _ ih => exact .cons (x.nrw h1 h2) ih
    exact ⟨es, ck, g1, key g2, g3⟩
noncomputable def kindsOk (h : AHeap) : Bool := Nat.rec (motive := fun _ => Bool) true (fun j ih => bAnd (match h.get j with
  | none => true
  | some o => Nat.blt o.kind 4) ih) h.n
omit [Toks] in
theorem kindsOk_get {h : AHeap} (hk : kindsOk h = true) : ∀ i o, h.get i = some o → o.kind < 4 := by
  have key : ∀ n, (Nat.rec (motive := fun _ => Bool) true (fun j ih => bAnd (match h.get j with
    | none => true
    | some o => Nat.blt o.kind 4) ih) n : Bool) = true → ∀ i o, i < n → h.get i = some o → o.kind < 4 := by
    intro n
    induction n with
    | zero => intro _ i o hi; omega
    | succ n ih =>
      intro hc i o hi ho
      obtain ⟨h1, h3⟩ := bAnd_true (a := match h.get n with
        | none => true
        | some o => Nat.blt o.kind 4) hc
      by_cases e : i = n
      · subst e
        rw [ho] at h1
        simp [Nat.blt] at h1
        omega
      · exact ih h3 i o (by omega) ho
  exact fun i o ho => key h.n hk i o (AHeap.get_lt ho) ho
theorem Stg.narrow (hk : kindsOk h = true) (h1 : (lo : Int) ≤ Toks.A t) (h2 : Toks.A t ≤ (hi : Int)) (s : Stg nt W (argsTr l 0 .nil) h a w) : Stg nt W (argsTr (l.map (nrw2 t lo hi)) 0 .nil) (nrwH t lo hi h) a w := by
  obtain ⟨⟨ρ, sr, sd, so⟩, sb⟩ := s
  have hk := kindsOk_get hk
  refine ⟨⟨ρ, ⟨fun i => ?_, sr.nt, sr.df, ?_⟩, sd, fun i lc o hl hi hk2 => ?_⟩, sb⟩
  · have h3 := sr.tr i
    simp only [argsTr_get, List.getElem?_map, List.length_map] at h3 ⊢
    simp only [Nat.not_lt_zero, if_false, Nat.zero_add, Nat.sub_zero] at h3 ⊢
    split
    · rename_i hlt
      rw [if_pos hlt, List.getElem?_eq_getElem hlt] at h3
      rw [List.getElem?_eq_getElem hlt]
      exact h3.nrw h1 h2
    · rename_i hlt
      rw [if_neg hlt] at h3
      exact h3
  · refine ⟨fun i o lc hi hl => ?_, fun i j o o' lc lc' hi hj hl hl' e => ?_, fun i lc hl => sr.sim.dom i lc hl, fun i hi => ?_, Nat.le_refl _⟩
    · simp only [nrwH_get, Option.map_eq_some_iff] at hi
      obtain ⟨o0, g1, rfl⟩ := hi
      exact (sr.sim.ok i o0 lc g1 hl).nrw h1 h2 (hk i o0 g1)
    · simp only [nrwH_get, Option.map_eq_some_iff] at hi hj
      obtain ⟨o0, g1, rfl⟩ := hi
      obtain ⟨o1, g2, rfl⟩ := hj
      exact sr.sim.inj i j o0 o1 lc lc' g1 g2 hl hl' e
    · rw [nrwH_get, sr.sim.fresh i hi]
      rfl
  · simp only [nrwH_get, Option.map_eq_some_iff] at hi
    obtain ⟨o0, g1, rfl⟩ := hi
    exact so i lc o0 hl g1 hk2
end
/-! Literals. -/
abbrev tl (v : Option AObj) : Tr AObj := .node v .nil .nil
abbrev tn (v : Option AObj) (l r : Tr AObj) : Tr AObj := .node v l r
abbrev te : Tr AObj := .nil
namespace Lit
abbrev lT : Value := .bool true
abbrev lF : Value := .bool false
abbrev lI (n : Int) : Value := .int .i64 n
abbrev lB (n : Int) : Value := .int .u8 n
abbrev lC (a b : Nat) : Value := .complex .f64 a b
abbrev lS (l : List UInt8) : Value := .string ⟨l.toArray⟩
abbrev lN : Value := .pointer none
abbrev lP (b : Nat) : Value := .pointer (some ⟨b, 0, none⟩)
abbrev lQ (b o : Nat) : Value := .pointer (some ⟨b, o, none⟩)
abbrev lL (b o n c : Nat) : Value := .slice (some ⟨b, o, none⟩) n c
abbrev lO (b o n c : Nat) : Value := .slice (some ⟨b, o, some opened⟩) n c
abbrev lM (r : Nat) : Value := .map (some r)
abbrev lY (f : Nat) (a b : List Value) : Value := .func (.func f) a.toArray b.toArray
abbrev lA (l : List Value) : Value := .agg l.toArray
abbrev lD (l : List Value) : Value := .tuple l.toArray
abbrev lU : Value := .tuple #[]
abbrev lH (e k es : Nat) (l : List Value) : Option AObj := some ⟨l, e, k, es⟩
abbrev lZ : Option AObj := none
end Lit
end Go.Proofs.YtolignkahfekbaaGreatDoor
