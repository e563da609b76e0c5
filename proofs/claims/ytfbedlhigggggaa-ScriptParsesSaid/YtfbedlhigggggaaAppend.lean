/- append and copy, abstract and real side by side. -/
import Derived.Test.YtfbedlhigggggaaOps3
import Derived.Conc.AppendEvents2
namespace Go.Proofs.Ytfbedlhigggggaa
open Go Go.RowKit
variable [Toks]

omit [Toks] in
theorem splice_get : ∀ (vs l : List Value) (off : Nat), off + vs.length ≤ l.length → ∀ k, (splice l off vs)[k]? = if k < off then l[k]? else if k < off + vs.length then vs[k - off]? else l[k]?
  | [], l, off, _, k => by
    simp only [splice, List.length_nil, Nat.add_zero]
    split
    · rfl
    · rfl
  | v :: vs, l, off, hl, k => by
    simp only [List.length_cons] at hl
    rw [splice, splice_get vs _ (off + 1) (by simp; omega) k]
    by_cases h1 : k < off
    · rw [if_pos (by omega), if_pos h1, List.getElem?_set_ne (by omega)]
    · by_cases h2 : k = off
      · subst h2
        rw [if_pos (by omega), if_neg (by omega), if_pos (by simp), Nat.sub_self, List.getElem?_set_self (by omega)]
        rfl
      · rw [if_neg (show ¬ k < off + 1 by omega), if_neg h1]
        by_cases h3 : k < off + 1 + vs.length
        · rw [if_pos h3, if_pos (by simp; omega), show k - off = (k - (off + 1)) + 1 by omega]
          rfl
        · rw [if_neg h3, if_neg (by simp; omega), List.getElem?_set_ne (by omega)]
omit [Toks] in
theorem takeN_some {l cs : List Value} {off n : Nat} (h : takeN l off n = some cs) : cs.length = n ∧ (∀ k, k < n → cs[k]? = l[off + k]?) := by
  unfold takeN at h
  split at h
  · injection h with h; subst h; rename_i e; subst e; exact ⟨rfl, fun k hk => by omega⟩
  · split at h
    · injection h with h
      subst h
      refine ⟨by simp; omega, fun k hk => ?_⟩
      rw [List.getElem?_take, if_pos hk, List.getElem?_drop]
    · cases h

section
variable {P : Program} {M : Nat} {ρ : Ren} {h h' : AHeap} {w : World} {T : Tr Value} {a : Act}
theorem Sim.kill (s : Sim M ρ h w) (i : Nat) : Sim M ρ (h.put i none) w := by
  have f : ∀ {j : Nat} {o : AObj}, (h.put i none).get j = some o → h.get j = some o := by
    intro j o hj
    rw [AHeap.get_kill] at hj
    split at hj
    · cases hj
    · exact hj
  refine ⟨fun j o l hj => s.ok j o l (f hj), fun j1 j2 o1 o2 l1 l2 g1 g2 => s.inj j1 j2 o1 o2 l1 l2 (f g1) (f g2), s.dom, fun j hj => ?_, s.le⟩
  rw [AHeap.get_kill]
  split
  · rfl
  · exact s.fresh j hj
omit [Toks] in
theorem Ext.kill {i : Nat} {o : AObj} {l : Loc} (hi : h.get i = some o) (hk : o.kind ≠ 2) (hl : ρ i = some l) : Ext ρ ρ h (h.put i none) w w := by
  refine ⟨Ren.le_refl _, (fun _ _ h1 h2 => by rw [h1] at h2; cases h2), fun j oj _ hj => ?_, fun j _ hj => ?_, Nat.le_refl _, Nat.le_refl _, rfl, rfl, rfl, fun b _ hn => rfl, fun j oj hj hk2 => ⟨?_, fun _ _ => rfl⟩, fun j oj _ hj _ hk2 => ?_⟩
  · rw [AHeap.get_kill] at hj
    split at hj
    · cases hj
    · exact ⟨oj, hj⟩
  · rw [AHeap.get_kill, if_neg (fun e => by subst e; rw [hl] at hj; cases hj)]
  · rw [AHeap.get_kill, if_neg (fun e => by subst e; rw [hi] at hj; cases hj; exact hk hk2)]
    exact hj
  · rw [AHeap.get_kill] at hj
    split at hj
    · cases hj
    · exact hj
theorem lenV_ok {x x' : Value} (hx : VR ρ x x') {m : Nat} (hm : lenV x = some m) (w : World) : (Builtin.lenOf x').run P w = .ok m w := by
  cases x with
  | string b => simp only [lenV, Option.some.injEq] at hm; subst hm; obtain rfl := hx.string; rfl
  | slice ad n c =>
    simp only [lenV, Option.some.injEq] at hm
    subst hm
    cases ad with
    | none => have e := VR.eq (v := .slice none n c) rfl hx; subst e; rfl
    | some ad => obtain ⟨_, l, o', c', _, rfl, _⟩ := hx.slc; rfl
  | _ => simp [lenV] at hm
theorem firsts_ok (s : Sim M ρ h w) {x x' : Value} (hx : VR ρ x x') {size n m : Nat} (hm : lenV x = some m) (hn : n ≤ m) {vs : List Value} (hf : firsts h size n x = some vs) :
    ∃ cs', (Builtin.firstCells size n x').run P w = .ok cs' w ∧ LR (VR0 ρ) vs cs'.toList := by
  unfold firsts at hf
  split at hf
  · rename_i ad n0 c
    simp only [lenV, Option.some.injEq] at hm
    subst hm
    obtain ⟨hnc, l, o', c', hl, rfl, g1, g2, _⟩ := hx.slc
    split at hf
    · rename_i h0
      injection hf with hf
      subst hf
      exact ⟨#[], by simp only [Builtin.firstCells, h0]; rfl, .nil⟩
    · rename_i h0
      split at hf
      · rename_i o ho
        have : 0 < c' := by
          rcases Nat.eq_zero_or_pos n with e | e
          · subst e; simp at h0
          · omega
        obtain rfl := g2 this
        exact s.cells ho hl hf (l.o + ad.off) fun _ => rfl
      · cases hf
  · injection hf with hf
    subst hf
    rename_i n0 c
    have e := VR.eq (v := .slice none n0 c) rfl hx
    subst e
    exact ⟨#[], rfl, .nil⟩
  · injection hf with hf
    subst hf
    obtain rfl := hx.string
    rename_i b
    refine ⟨(b.extract 0 n).data.map fun b => .int .u8 b.toNat, rfl, ?_⟩
    simp only [Array.toList_map]
    exact LR.refl_of fun u hu => by
      simp only [List.mem_map] at hu
      obtain ⟨b, _, rfl⟩ := hu
      exact VR0.flat rfl
  · cases hf
omit [Toks] in
theorem firsts_len {x : Value} {size n : Nat} {vs : List Value} (hf : firsts h size n x = some vs) (hx : ∀ s, x ≠ .string s) (hn : x ≠ .slice none n 0 ∨ n = 0) : (∃ m c, x = .slice none m c) ∨ vs.length = n * size := by
  unfold firsts at hf
  split at hf
  · split at hf
    · injection hf with hf; subst hf; right; simp; omega
    · split at hf
      · right; exact (takeN_some hf).1
      · cases hf
  · exact .inl ⟨_, _, rfl⟩
  · exact absurd rfl (hx _)
  · cases hf

omit [Toks] in
theorem apInfo_ok {u1 : TypeDesc} {e : TypeId} {i : TypeInfo} (h : apInfo P u1 e = some i) : (∀ k, u1 ≠ .int k) ∧ P.info? e = some i ∧ ∃ z, i.zero = some z ∧ z.cells.size = i.size ∧ i.size ≠ 0 := by
  unfold apInfo at h
  split at h
  · cases h
  · rename_i hne
    split at h
    · rename_i i' hi
      split at h
      · rename_i z hz
        split at h
        · rename_i hc
          injection h with h
          subst h
          exact ⟨fun k e => hne k e, hi, z, hz, hc.1, hc.2⟩
        · cases h
      · cases h
    · cases h
/-- What append comes to, behind its first looks: A tells what is appended. -/
def ApRun (P : Program) (types : Array TypeId) (ty e : TypeId) (i : TypeInfo) (m : Nat) (y' : Value) (A : Sem (Array Value)) (w : World) : Prop :=
  ∀ (base : Option Addr) (n c : Nat) (r : Result Value), (n + m) * i.bytes ≤ 2 ^ 32 → n + m ≤ 2 ^ 32 → ((if n + m ≤ c then (do
      let new ← A
      if let some a := base then storeCells (a.add (n * i.size)) new.toList
      pure (.slice base (n + m) c))
    else (do
      let newCap ← choose (.appendCap (n + m) c e)
      let old ← Builtin.firstCells i.size n (.slice base n c)
      let new ← A
      let rest := Builtin.zeroCells (← zeroValue e).cells (newCap - (n + m))
      pure (.slice (some (← newRow e (old ++ new ++ rest))) (n + m) newCap)) : Sem Value).run P w = r) →
    (Builtin.append_ types ty #[.slice base n c, y']).run P w = r
omit [Toks] in
/-- What append comes to, behind its first looks. -/
theorem append_run {t0 t1 ty e : TypeId} {types : Array TypeId} {u1 : TypeDesc} {i : TypeInfo} (h0 : types[0]? = some t0) (h1 : types[1]? = some t1) (hu0 : P.underlying t0 = some (.slice e)) (hu1 : P.underlying t1 = some u1) (hi : apInfo P u1 e = some i)
    {base : Option Addr} {n c m : Nat} {x' : Value} (hm : (Builtin.lenOf x').run P w = .ok m w) (hb : (n + m) * i.bytes ≤ 2 ^ 32) (hb2 : n + m ≤ 2 ^ 32) {r : Result Value}
    (hr : (if n + m ≤ c then (do
      let new ← Builtin.firstCells i.size m x'
      if let some a := base then storeCells (a.add (n * i.size)) new.toList
      pure (.slice base (n + m) c))
    else (do
      let newCap ← choose (.appendCap (n + m) c e)
      let old ← Builtin.firstCells i.size n (.slice base n c)
      let new ← Builtin.firstCells i.size m x'
      let rest := Builtin.zeroCells (← zeroValue e).cells (newCap - (n + m))
      pure (.slice (some (← newRow e (old ++ new ++ rest))) (n + m) newCap)) : Sem Value).run P w = r) :
    (Builtin.append_ types ty #[.slice base n c, x']).run P w = r := by
  obtain ⟨hk, hinfo, z, hz, hzs, hs0⟩ := apInfo_ok hi
  rw [← hr]
  have e0 : (#[Value.slice base n c, x'] : Array Value)[0]? = some (.slice base n c) := rfl
  have e1 : (#[Value.slice base n c, x'] : Array Value)[1]? = some x' := rfl
  simp only [Builtin.append_, h0, h1, e0, e1, Sem.run_bind, run_underlying hu0, run_underlying hu1, Result.andThen_ok, sizeOf, typeInfo, run_program, hinfo, Sem.run_pure, Bool.false_eq_true, if_false, hm, Bool.not_false, if_true]
  by_cases hroom : n + m ≤ c
  · rw [if_pos hroom, if_pos hroom]
    simp only [Sem.run_bind]
    cases base <;> rfl
  · rw [if_neg hroom, if_neg hroom]
    have h63 : ¬ ((n + m : Nat) : Int) > IntKind.i64.max := by
      have : IntKind.i64.max = 9223372036854775807 := rfl
      rw [this]; omega
    have hg := growslice_fits (need := n + m) (old := c) (bytes := i.bytes) (by omega) (by omega)
    simp only [h63, false_and, if_false, Sem.run_bind, Sem.run_pure, Result.andThen_ok, run_program, hinfo]
    rw [if_neg (by omega)]
    simp only [Sem.run_bind, Sem.run_pure, Result.andThen_ok, run_program, hinfo, run_askRoom]
omit [Toks] in
theorem drawn_choose {need old : Nat} {e : TypeId} (_hn : need ≤ 2 ^ 32) (w : World) : ∃ k, need ≤ k ∧ (choose (.appendCap need old e)).run P w = .ok k { w with drawn := w.drawn + 1 } := by
  refine ⟨grownCap w need old e, grownCap_ge w need old e, ?_⟩
  simp [choose, Sem.run, Question.forced, grownCap]
theorem Sim.moved (s : Sim M ρ h w) (hM : h.n < M) {w' : World} {i : Nat} {o : AObj} {l : Loc} {cs : Array Value} {fz : Nat × Nat} (hi : h.get i = some o) (hk : o.kind ≠ 2) (hl : ρ i = some l) (o2 : AObj) (hk3 : o2.kind < 3) (hp : Put w w' l.b cs o2.elem fz)
    (hf : o2.kind ≠ 2 → ∀ k, k < cs.size → (decide (fz.1 ≤ k) && decide (k < fz.2)) = false) (h0 : o2.kind = 0 → fz = (0, 0)) (hsz : o2.kind ≠ 2 → cs.size = o2.es * l.cap ∧ l.o = 0)
    (hrel : ∀ (k : Nat) (u : Value), o2.cells[k]? = some u → ∃ u', cs[l.o + k]? = some u' ∧ VR0 ρ u u') : Sim M (ρ.add h.n l) ((h.put i none).push o2) w' := by
  have hle := s.le_add hM l
  have f : ∀ {j : Nat} {o' : AObj}, ((h.put i none).push o2).get j = some o' → (j = h.n ∧ o' = o2) ∨ (j ≠ h.n ∧ j ≠ i ∧ h.get j = some o') := by
    intro j o' hj
    rw [AHeap.get_push] at hj
    split at hj
    · injection hj with hj; exact .inl ⟨‹_›, hj.symm⟩
    · rw [AHeap.get_kill] at hj
      split at hj
      · cases hj
      · exact .inr ⟨‹_›, ‹_›, hj⟩
  have g : ∀ {j : Nat} {l' : Loc}, j ≠ h.n → ρ.add h.n l j = some l' → ρ j = some l' := by
    intro j l' hj hl'
    simpa [Ren.add, hj] using hl'
  have out : ∀ {j : Nat} {o' : AObj} {l' : Loc}, j ≠ i → h.get j = some o' → ρ j = some l' → l'.b ≠ l.b := fun hj ho hl' e => (s.inj _ _ _ _ _ _ ho hi hl' hl e).elim hj fun x => hk x.2
  refine ⟨fun j o' l' hj hl' => ?_, fun j1 j2 o1 o2' l1 l2 g1 g2 g3 g4 g5 => ?_, fun j l' hj => ?_, fun j hj => ?_, hM⟩
  · rcases f hj with ⟨rfl, rfl⟩ | ⟨a1, a2, a3⟩
    · rw [Ren.add_new] at hl'
      cases hl'
      exact Held.ofCells hk3 ⟨cs, fz, hp.here, fun k u hu => by obtain ⟨u', a, b⟩ := hrel k u hu; exact ⟨u', a, b.mono hle⟩, hf, h0, hsz⟩
    · have hl2 := g a1 hl'
      exact (s.ok j o' l' a3 hl2).move hle (hp.other _ (out a2 a3 hl2))
  · rcases f g1 with ⟨rfl, rfl⟩ | ⟨a1, a2, a3⟩ <;> rcases f g2 with ⟨rfl, rfl⟩ | ⟨b1, b2, b3⟩
    · exact .inl rfl
    · exfalso
      rw [Ren.add_new] at g3
      cases g3
      exact out b2 b3 (g b1 g4) g5.symm
    · exfalso
      rw [Ren.add_new] at g4
      cases g4
      exact out a2 a3 (g a1 g3) g5
    · exact s.inj _ _ _ _ _ _ a3 b3 (g a1 g3) (g b1 g4) g5
  · simp only [AHeap.push, AHeap.put]
    rw [hp.size]
    by_cases e : j = h.n
    · subst e
      rw [Ren.add_new] at hj
      cases hj
      exact ⟨.inl (Nat.lt_succ_self _), (s.dom _ _ hl).2⟩
    · have := s.dom j l' (g e hj)
      omega
  · simp only [AHeap.push, AHeap.put] at hj
    rw [AHeap.get_push, AHeap.get_kill]
    have hne : ¬ j = h.n := by omega
    simp only [AHeap.put, hne, if_false]
    split
    · rfl
    · exact s.fresh j (by omega)
theorem Ext.moved (s : Sim M ρ h w) (hM : h.n < M) {w' : World} {i : Nat} {o : AObj} {l : Loc} {cs : Array Value} {e : TypeId} {fz : Nat × Nat} (hi : h.get i = some o) (hk : o.kind ≠ 2) (hl : ρ i = some l) (o2 : AObj) (hk' : o2.kind ≠ 2) (hp : Put w w' l.b cs e fz) : Ext ρ (ρ.add h.n l) h ((h.put i none).push o2) w w' := by
  refine ⟨s.le_add hM l, fun j l' h1 h2 => ?_, fun j oj hlt hj => ?_, fun j hlt hj => ?_, Nat.le_succ _, by rw [hp.size]; exact Nat.le_refl _, hp.os, hp.tape, hp.output, fun b _ hn => hp.other b fun e => hn i l o hl hi hk e.symm, fun j oj hj hk2 => ?_, fun j oj _ hj _ hk2 => ?_⟩
  · by_cases e : j = h.n
    · subst e
      rw [Ren.add_new] at h1
      cases h1
      exact ⟨Nat.le_refl _, Nat.lt_succ_self _, .inr ⟨i, _, o, hl, hi, hk, rfl⟩⟩
    · simp [Ren.add, e, h2] at h1
  · rw [AHeap.get_push, AHeap.get_kill] at hj
    have hne : ¬ j = h.n := by omega
    simp only [AHeap.put, hne, if_false] at hj
    split at hj
    · cases hj
    · exact ⟨oj, hj⟩
  · have hne : ¬ j = h.n := by omega
    have hne2 : ¬ j = i := fun e => by subst e; rw [hl] at hj; cases hj
    rw [AHeap.get_push, AHeap.get_kill]
    simp only [AHeap.put, hne, hne2, if_false]
  · have hne : j ≠ i := fun e => by subst e; rw [hi] at hj; cases hj; exact hk hk2
    refine ⟨?_, fun l' hl' => hp.other _ fun e => (s.inj j i oj o l' l hj hi hl' hl e).elim hne fun x => hk x.2⟩
    rw [AHeap.get_push, AHeap.get_kill]
    simp only [AHeap.put]
    split
    · rename_i e; subst e; rw [s.fresh _ (Nat.le_refl _)] at hj; cases hj
    · first
        | exact hj
        | (rw [if_neg hne]; exact hj)
  · rw [AHeap.get_push, AHeap.get_kill] at hj
    split at hj
    · cases hj; exact absurd hk2 hk'
    · split at hj
      · cases hj
      · exact hj

section
variable {types : Array TypeId} {ty e : TypeId} {u1 : TypeDesc} {i : TypeInfo} (hi : apInfo P u1 e = some i)
  {n m : Nat} {y' : Value} {A : Sem (Array Value)} {new : List Value} (hb1 : (n + m) * i.bytes ≤ 2 ^ 32) (hb2 : n + m ≤ 2 ^ 32) (hap : ApRun P types ty e i m y' A w) (hnl : new.length = m * i.size)
  (hnew : ∀ w2 : World, w2.heap = w.heap → ∃ n2, A.run P w2 = .ok n2 w2 ∧ LR (VR0 ρ) new n2.toList)
include hi hb1 hb2 hap hnl hnew
theorem agrow_ok {h1 : AHeap} {kind : Nat} {old : List Value} {c' : Nat} {b' : Option Addr} (s0 : Sim M ρ h w) (s1 : Sim M ρ h1 w) (hM : h1.n < M) (hext : Ext ρ ρ h h1 w w) (hk : kind < 3) (hkk : kind ≠ 2) (hgt : c' < n + m)
    (hol : old.length = n * i.size) (hold : ∀ w2 : World, w2.heap = w.heap → ∃ o2, (Builtin.firstCells i.size n (.slice b' n c')).run P w2 = .ok o2 w2 ∧ LR (VR0 ρ) old o2.toList) :
    ValOk P M ρ h w (.slice (some ⟨h1.n, 0, some opened⟩) (n + m) (n + m)) (anew h1 e kind i.size (old ++ new)).2 (Builtin.append_ types ty #[.slice b' n c', y']) := by
  obtain ⟨_, hinfo, z, hz, hzs, hs0⟩ := apInfo_ok hi
  have hzv : ∀ w, (zeroValue e).run P w = .ok z w := fun w => by simp [zeroValue, typeInfo, hinfo, hz]
  obtain ⟨k, hk1, hk2⟩ := drawn_choose (P := P) (need := n + m) (old := c') (e := e) hb2 w
  obtain ⟨o2, ho2, hor⟩ := hold { w with drawn := w.drawn + 1 } rfl
  obtain ⟨n2, hn2, hnr⟩ := hnew { w with drawn := w.drawn + 1 } rfl
  have hos : o2.size = n * i.size := by have := hor.length; simpa [hol] using this
  have hns : n2.size = m * i.size := by have := hnr.length; simpa [hnl] using this
  obtain ⟨k1, k2, k3⟩ := anew_ok (P := P) s1 hM (e := e) (kind := kind) (es := i.size) (cells := old ++ new) (cs := o2 ++ n2 ++ Builtin.zeroCells z.cells (k - (n + m))) hk hkk (fun j u hu => by
      obtain ⟨u', a1, a2⟩ := (hor.append hnr).get j u hu
      refine ⟨u', ?_, a2⟩
      rw [← Array.getElem?_toList, Array.toList_append, Array.toList_append, List.getElem?_append_left (by have := (List.getElem?_eq_some_iff.1 a1).1; exact this)]
      exact a1) k (by
      rw [Array.size_append, Array.size_append, size_zeroCells, hzs, hos, hns, ← Nat.add_mul, ← Nat.add_mul, Nat.mul_comm]
      congr 1
      omega) { w with drawn := w.drawn + 1 } rfl rfl rfl rfl
  refine ⟨_, _, _, hap _ _ _ _ hb1 hb2 ?_, hext.trans s0 s1 k2, k3, Nat.le_refl _, _, 0, k, Ren.add_new _ _ _, rfl, hk1, fun _ => by simp, fun hs => by simp at hs, fun _ _ _ => rfl⟩
  rw [if_neg (by omega)]
  simp only [Sem.run_bind, hk2, Result.andThen_ok, ho2, hn2, hzv, k1, Sem.run_pure]
theorem ainto_ok (s : Sim M ρ h w) (hM : h.n < M) {o : AObj} {ad : Addr} {l : Loc} {old : List Value} {c c' o' : Nat} (_hx : n ≤ c) (ho : h.get ad.block = some o) (hl : ρ ad.block = some l) (hk : o.kind ≠ 2) (hk3 : o.kind < 3) (hes : o.es = i.size) (hel : o.elem = e) (hoff : ad.off = 0) (hsp : ad.spot ≠ none)
    (g2 : 0 < c' → o' = l.o + ad.off) (g4 : ad.spot ≠ none → 0 < c' → ad.off = 0 → c' = l.cap) (hgt : c < n + m) (hroom : n + m ≤ c') (hold : takeN o.cells 0 (n * i.size) = some old) :
    ValOk P M ρ h w (.slice (some ⟨h.n, 0, some opened⟩) (n + m) (n + m)) (anew (h.put ad.block none) e o.kind i.size (old ++ new)).2 (Builtin.append_ types ty #[.slice (some ⟨l.b, o', none⟩) n c', y']) := by
  have hc : 0 < c' := by omega
  have hcap := g4 hsp hc hoff
  obtain ⟨n2, hn2, hnr⟩ := hnew w rfl
  have hns : n2.toList.length = m * i.size := by rw [hnr.length, hnl]
  obtain ⟨cs, fz, f1, f2, f3, f4, f5⟩ := (s.ok _ o l ho hl).cells hk3
  have hl0 : l.o = 0 := (f5 hk).2
  obtain rfl : o' = 0 := (g2 hc).trans (by rw [hl0, hoff])
  have hsz : cs.size = i.size * c' := by rw [(f5 hk).1, hes, hcap]
  have hfit : n * i.size + 0 + n2.toList.length ≤ cs.size := by
    rw [hns, hsz, Nat.add_zero, ← Nat.add_mul, Nat.mul_comm i.size]
    exact Nat.mul_le_mul_right _ hroom
  obtain ⟨w', hr, hp⟩ := store_run (P := P) (off := n * i.size) n2.toList 0 cs w f1 hfit (f3 hk) hnr.ones
  obtain ⟨t1, t2⟩ := takeN_some hold
  have hrel : ∀ (k : Nat) (u : Value), (old ++ new)[k]? = some u → ∃ u', (splice cs.toList (n * i.size + 0) n2.toList).toArray[l.o + k]? = some u' ∧ VR0 ρ u u' := by
    intro k u hu
    rw [hl0, Nat.zero_add]
    simp only [hl0, Nat.zero_add] at f2
    simp only [List.getElem?_toArray]
    rw [splice_get _ _ _ (by simpa using hfit)]
    simp only [Nat.add_zero]
    by_cases hkn : k < n * i.size
    · rw [if_pos hkn]
      rw [List.getElem?_append_left (by omega), t2 k hkn, Nat.zero_add] at hu
      obtain ⟨u', a1, a2⟩ := f2 k u hu
      exact ⟨u', by simpa using a1, a2⟩
    · rw [if_neg hkn]
      rw [List.getElem?_append_right (by omega), t1] at hu
      have hlt := (List.getElem?_eq_some_iff.1 hu).1
      rw [if_pos (by omega)]
      exact hnr.get _ _ hu
  have hs2 : (splice cs.toList (n * i.size + 0) n2.toList).toArray.size = cs.size := by simp [splice_length]
  subst hel
  have k3 := Sim.moved s hM ho hk hl ⟨old ++ new, o.elem, o.kind, i.size⟩ hk3 hp (fun x => by rw [hs2]; exact f3 x) f4 (fun x => by rw [hs2]; simp only; exact ⟨by rw [hsz, hcap], hl0⟩) hrel
  have k2 := Ext.moved s hM ho hk hl ⟨old ++ new, o.elem, o.kind, i.size⟩ hk hp
  refine ⟨_, .slice (some ⟨l.b, 0, none⟩) (n + m) c', w', hap _ _ _ _ hb1 hb2 ?_, k2, k3, Nat.le_refl _, l, 0, c', Ren.add_new _ _ _, rfl, hroom, fun _ => by simp [hl0], fun hs => by simp at hs, fun _ _ _ => hcap⟩
  rw [if_pos hroom]
  have e1 : (⟨l.b, 0, none⟩ : Addr).add (n * i.size) = ⟨l.b, n * i.size, none⟩ := by rw [add_at, Nat.zero_add]
  simp only [Sem.run_bind, hn2, Result.andThen_ok, e1, hr, Sem.run_pure]
end
theorem appendTo_ok (s : Sim M ρ h w) {types : Array TypeId} {ty e : TypeId} {u1 : TypeDesc} {i : TypeInfo} (hi : apInfo P u1 e = some i) {base : Option Addr} {n c m : Nat} {x' y' : Value} {A : Sem (Array Value)} {new : List Value} (hx : VR ρ (.slice base n c) x') {v : Value} (hM : h'.n ≤ M)
    (hb1 : (n + m) * i.bytes ≤ 2 ^ 32) (hb2 : n + m ≤ 2 ^ 32) (hap : ApRun P types ty e i m y' A w) (hnl : new.length = m * i.size)
    (hnews : ∀ w2 : World, w2.heap = w.heap → ∃ n2, A.run P w2 = .ok n2 w2 ∧ LR (VR0 ρ) new n2.toList) (hv : aappendTo e i base n c m new h = some (v, h')) :
    ValOk P M ρ h w v h' (Builtin.append_ types ty #[x', y']) := by
  unfold aappendTo at hv
  cases base with
  | none =>
    have ex := VR.eq (v := .slice none n c) rfl hx
    subst ex
    simp only at hv
    split at hv
    · rename_i hroom
      split at hv
      · rename_i hm0
        injection hv with hv
        injection hv with hv1 hv2
        subst hv1 hv2
        obtain ⟨n2, hn2, _⟩ := hnews w rfl
        refine ValOk.quiet s (hap _ _ _ (.ok (.slice none (n + m) c) w) hb1 hb2 ?_) (VR.flat rfl)
        rw [if_pos hroom]
        simp only [Sem.run_bind, hn2, Result.andThen_ok, Sem.run_pure]
      · cases hv
    · rename_i hroom
      split at hv
      · rename_i hn0
        subst hn0
        simp only [agrow, Option.some.injEq, Prod.mk.injEq] at hv
        obtain ⟨rfl, rfl⟩ := hv
        have := agrow_ok (ty := ty) (n := 0) hi hb1 hb2 hap hnl hnews (h := h) (h1 := h) (kind := 0) (old := []) (c' := c) (b' := none) s s hM (Ext.refl _ _ _) (by decide) (by decide) (by omega) (by simp) (fun w2 _ => ⟨#[], rfl, .nil⟩)
        simpa using this
      · cases hv
  | some ad =>
    obtain ⟨hnc, l, o', c', hl, rfl, g1, g2, g3, g4⟩ := hx.slc
    simp only at hv
    have hxs : VR ρ (.slice (some ad) n c) (.slice (some ⟨l.b, o', none⟩) n c') := hx
    split at hv
    · rename_i hroom
      simp only [Option.bind_eq_some_iff, Option.some.injEq, Prod.mk.injEq] at hv
      obtain ⟨h2, hst, rfl, rfl⟩ := hv
      obtain ⟨n2, hn2, hnr⟩ := hnews w rfl
      obtain ⟨w', k1, k2, k3⟩ := astore_ok (P := P) s hst hl hnr
      refine ⟨ρ, .slice (some ⟨l.b, o', none⟩) (n + m) c', w', hap _ _ _ _ hb1 hb2 ?_, k2, k3, hroom, l, o', c', hl, rfl, g1, g2, g3, g4⟩
      rw [if_pos (by omega)]
      have e1 : (storeCells ((⟨l.b, o', none⟩ : Addr).add (n * i.size)) n2.toList).run P w = .ok () w' := by
        rw [add_at]
        by_cases hc0 : 0 < c'
        · rw [g2 hc0, Nat.add_assoc]; exact k1
        · have hm0 : m = 0 := by omega
          have e2 : n2.toList = [] := List.eq_nil_of_length_eq_zero (by rw [hnr.length, hnl, hm0]; simp)
          rw [e2] at k1 ⊢
          exact k1
      simp only [Sem.run_bind, hn2, Result.andThen_ok, e1, Sem.run_pure]
    · rename_i hroom
      split at hv
      · rename_i hsp
        simp only [Option.bind_eq_some_iff] at hv
        obtain ⟨old, hold, hv⟩ := hv
        split at hv
        · cases hv
        · rename_i hol
          simp only [ne_eq, Decidable.not_not] at hol
          simp only [agrow, Option.some.injEq, Prod.mk.injEq] at hv
          obtain ⟨rfl, rfl⟩ := hv
          have hc := g3 (by simpa using hsp)
          exact agrow_ok (ty := ty) hi hb1 hb2 hap hnl hnews (h := h) (h1 := h) (kind := 0) (old := old) (c' := c') (b' := some ⟨l.b, o', none⟩) s s hM (Ext.refl _ _ _) (by decide) (by decide) (by omega) hol (fun w2 e2 => firsts_ok (P := P) (s.heap_eq e2) hxs rfl (Nat.le_refl _) hold)
      · rename_i hsp
        split at hv
        · rename_i hoff
          split at hv
          · rename_i o ho
            split at hv
            · cases hv
            · rename_i hcond
              simp only [not_or, ne_eq, Decidable.not_not] at hcond
              obtain ⟨q1, q2, q3⟩ := hcond
              have hoc := ho
              obtain ⟨ho, hk3⟩ := AHeap.cel_get ho
              simp only [Option.bind_eq_some_iff] at hv
              obtain ⟨old, hold, hv⟩ := hv
              split at hv
              · cases hv
              · rename_i hol
                simp only [ne_eq, Decidable.not_not] at hol
                simp only [agrow, Option.some.injEq, Prod.mk.injEq] at hv
                obtain ⟨rfl, rfl⟩ := hv
                by_cases hr2 : n + m ≤ c'
                · have htk : takeN o.cells 0 (n * i.size) = some old := by
                    unfold firsts at hold
                    simp only at hold
                    split at hold
                    · rename_i e0
                      injection hold with hold
                      subst hold
                      rw [e0]
                      rfl
                    · rw [hoc, hoff] at hold
                      exact hold
                  exact ainto_ok (ty := ty) hi hb1 hb2 hap hnl hnews s hM hnc ho hl q1 hk3 q2 q3 hoff (by intro e2; rw [e2] at hsp; simp at hsp) g2 g4 (by omega) hr2 htk
                · exact agrow_ok (ty := ty) hi hb1 hb2 hap hnl hnews (h := h) (h1 := h.put ad.block none) (kind := o.kind) (old := old) (c' := c') (b' := some ⟨l.b, o', none⟩) s (s.kill _) hM (Ext.kill ho q1 hl) hk3 q1 (by omega) hol (fun w2 e2 => firsts_ok (P := P) (s.heap_eq e2) hxs rfl (Nat.le_refl _) hold)
          · cases hv
        · cases hv
theorem append_ok (s : Sim M ρ h w) {types : Array TypeId} {ty : TypeId} {x y x' y' : Value} (hx : VR ρ x x') (hy : VR ρ y y') {v : Value} (hM : h'.n ≤ M) (hv : aappend P types x y h = some (v, h')) :
    ValOk P M ρ h w v h' (Builtin.append_ types ty #[x', y']) := by
  unfold aappend at hv
  split at hv
  · rename_i t0 t1 base n c h0 h1
    split at hv
    · rename_i e k hu0 hu1
      split at hv
      · rename_i i z m hi hz
        split at hv
        · cases hv
        · rename_i hb
          simp only [not_or, Nat.not_lt, ne_eq, Decidable.not_not] at hb
          obtain ⟨hb1, hb2, hzs⟩ := hb
          obtain rfl := hy.int
          obtain ⟨_, hinfo, z', hz', hzs', hs0⟩ := apInfo_ok hi
          have hz2 := (zeroP_ok hz w).2
          have hzv : ∀ w, (zeroValue e).run P w = .ok z w := fun w => (zeroP_ok hz w).1
          have hlen : ((Array.range (m * i.size)).map (z.cells[· % i.size]!)).toList.length = m * i.size := by simp
          refine appendTo_ok s hi hx hM hb1 hb2 (A := if m * i.size = 0 then pure #[] else do pure (Builtin.zeroCells (← zeroValue e).cells m)) ?_ hlen ?_ hv
          · intro base n c r hb1 hb2 hr
            rw [← hr]
            have e0 : (#[Value.slice base n c, Value.int .i64 (Int.ofNat m)] : Array Value)[0]? = some (.slice base n c) := rfl
            have e1 : (#[Value.slice base n c, Value.int .i64 (Int.ofNat m)] : Array Value)[1]? = some (.int .i64 (Int.ofNat m)) := rfl
            have hw64 : IntKind.i64.wrap (Int.ofNat m) = (m : Int) := by
              rw [IntKind.wrap_i64]
              show ((m : Int) + _) % _ - _ = _
              omega
            have hai : (asInt (.int .i64 (Int.ofNat m))).run P w = .ok (Int.ofNat m) w := rfl
            have hneg : ¬ ((m : Int) < 0) := by omega
            have hbb : ¬ ((m : Int) * (i.bytes : Int) > 2 ^ 48) := by
              have h1 : m * i.bytes ≤ (n + m) * i.bytes := Nat.mul_le_mul_right _ (Nat.le_add_left _ _)
              have h2 : ((m * i.bytes : Nat) : Int) ≤ ((2 ^ 32 : Nat) : Int) := Int.ofNat_le.2 (Nat.le_trans h1 hb1)
              simp only [Int.natCast_mul] at h2
              have h3 : (((2 : Nat) ^ 32 : Nat) : Int) = 4294967296 := by decide
              rw [h3] at h2
              have h4 : ((2 : Int) ^ 48) = 281474976710656 := by decide
              rw [h4]
              omega
            simp only [Builtin.append_, h0, h1, e0, e1, Sem.run_bind, run_underlying hu0, run_underlying hu1, Result.andThen_ok, sizeOf, typeInfo, run_program, hinfo, Sem.run_pure, if_true, hai, hw64, hneg, if_false, hbb, Int.toNat_natCast, Bool.not_true, Bool.false_eq_true]
            by_cases hroom : n + m ≤ c
            · rw [if_pos hroom, if_pos hroom]
              simp only [Sem.run_bind]
              cases base <;> rfl
            · rw [if_neg hroom, if_neg hroom]
              have h63 : ¬ ((n + m : Nat) : Int) > IntKind.i64.max := by
                have : IntKind.i64.max = 9223372036854775807 := rfl
                rw [this]; omega
              have hg := growslice_fits (need := n + m) (old := c) (bytes := i.bytes) (by omega) (by omega)
              simp only [h63, false_and, if_false, Sem.run_bind, Sem.run_pure, Result.andThen_ok, run_program, hinfo]
              rw [if_neg (by omega)]
              simp only [Sem.run_bind, Sem.run_pure, Result.andThen_ok, run_program, hinfo, run_askRoom]
          · intro w2 _
            by_cases hm0 : m * i.size = 0
            · rw [if_pos hm0]
              refine ⟨#[], rfl, ?_⟩
              have e3 : ((Array.range (m * i.size)).map (z.cells[· % i.size]!)).toList = [] := List.eq_nil_of_length_eq_zero (by simp [hm0])
              rw [e3]
              exact .nil
            · rw [if_neg hm0]
              refine ⟨Builtin.zeroCells z.cells m, by simp only [Sem.run_bind, hzv, Result.andThen_ok, Sem.run_pure], ?_⟩
              have e2 : ((Array.range (m * i.size)).map (z.cells[· % i.size]!)) = Builtin.zeroCells z.cells m := by
                simp only [Builtin.zeroCells, hzs]
              rw [e2]
              refine LR.refl_of fun a ha => VR0.flat ?_
              simp only [Builtin.zeroCells, Array.toList_map, List.mem_map] at ha
              obtain ⟨k, _, rfl⟩ := ha
              have hpos : k % z.cells.size < z.cells.size := Nat.mod_lt _ (by rw [hzs]; omega)
              rw [getElem!_pos z.cells _ hpos]
              exact List.all_eq_true.1 hz2 _ (by simp)
      · cases hv
    · rename_i e u1 hu1n hu0 hu1
      split at hv
      · rename_i i m hi hm
        simp only [Option.bind_eq_some_iff] at hv
        obtain ⟨new, hnew, hv⟩ := hv
        split at hv
        · cases hv
        · rename_i hb
          simp only [not_or, Nat.not_lt, ne_eq, Decidable.not_not] at hb
          obtain ⟨hb1, hb2, hnl⟩ := hb
          have hlm := lenV_ok (P := P) hy hm w
          exact appendTo_ok s hi hx hM hb1 hb2 (fun base n c r hb1 hb2 hr => append_run h0 h1 hu0 hu1 hi hlm hb1 hb2 hr) hnl (fun w2 e2 => firsts_ok (P := P) (s.heap_eq e2) hy hm (Nat.le_refl _) hnew) hv
      · cases hv
    · cases hv
  · cases hv
end
end Go.Proofs.Ytfbedlhigggggaa
