/- What abstract memory says of memory: names of blocks, values, the world; steps that keep it. -/
import Derived.Test.YtfbedlhigggggaaExec
import Derived.Laws.FloatArith
namespace Go.Proofs.Ytfbedlhigggggaa
open Go Go.RowKit

section tree
variable {α : Type}
theorem Tr.get_setF (v : Option α) : ∀ (f : Nat) (t : Tr α) (i j : Nat), i < f → (Tr.setF v f t i).get j = if j = i then v else t.get j
  | 0, _, _, _, h => absurd h (by omega)
  | f + 1, .nil, 0, j, _ => by
    cases j <;> simp [Tr.setF, Tr.get]
  | f + 1, .nil, k + 1, j, h => by
    have ih := Tr.get_setF v f .nil (k / 2)
    cases j with
    | zero => cases hk : Nat.beq (k % 2) 0 <;> simp [Tr.setF, Tr.get, hk]
    | succ j =>
      have hi := ih (j / 2) (by omega)
      cases hk : Nat.beq (k % 2) 0 <;> cases hj : Nat.beq (j % 2) 0 <;> simp only [Tr.setF, Tr.get, hk, hj, cond_true, cond_false] <;>
        simp only [Bool.eq_false_iff, ne_eq, Nat.beq_eq] at hk hj
      all_goals first
        | (rw [hi]; simp only [Tr.get]; by_cases e : j / 2 = k / 2
           · rw [if_pos e, if_pos (by omega)]
           · rw [if_neg e, if_neg (by omega)])
        | (rw [if_neg (by omega)])
  | f + 1, .node x l r, 0, j, _ => by
    cases j <;> simp [Tr.setF, Tr.get]
  | f + 1, .node x l r, k + 1, j, h => by
    have ihl := Tr.get_setF v f l (k / 2)
    have ihr := Tr.get_setF v f r (k / 2)
    cases j with
    | zero => cases hk : Nat.beq (k % 2) 0 <;> simp [Tr.setF, Tr.get, hk]
    | succ j =>
      have hl := ihl (j / 2) (by omega)
      have hr := ihr (j / 2) (by omega)
      cases hk : Nat.beq (k % 2) 0 <;> cases hj : Nat.beq (j % 2) 0 <;> simp only [Tr.setF, Tr.get, hk, hj, cond_true, cond_false] <;>
        simp only [Bool.eq_false_iff, ne_eq, Nat.beq_eq] at hk hj
      all_goals first
        | (rw [hl]; by_cases e : j / 2 = k / 2
           · rw [if_pos e, if_pos (by omega)]
           · rw [if_neg e, if_neg (by omega)])
        | (rw [hr]; by_cases e : j / 2 = k / 2
           · rw [if_pos e, if_pos (by omega)]
           · rw [if_neg e, if_neg (by omega)])
        | (rw [if_neg (by omega)])
theorem Tr.get_set (t : Tr α) (i j : Nat) (v : Option α) : (t.set i v).get j = if j = i then v else t.get j := Tr.get_setF v (i + 1) t i j (by omega)
end tree
theorem AHeap.get_push (h : AHeap) (o : AObj) (j : Nat) : (h.push o).get j = if j = h.n then some o else h.get j := by
  simp only [AHeap.get, AHeap.push, Tr.get_set]
  by_cases e : j = h.n
  · subst e; simp
  · simp only [e, if_false]
    by_cases h2 : j < h.n
    · rw [if_pos (by omega), if_pos h2]
    · rw [if_neg (by omega), if_neg h2]
theorem AHeap.get_ge (h : AHeap) (i : Nat) (hi : h.n ≤ i) : h.get i = none := by
  simp only [AHeap.get]
  rw [if_neg (by omega)]
theorem AHeap.get_lt {h : AHeap} {i : Nat} {o : AObj} (hi : h.get i = some o) : i < h.n := by
  rcases Nat.lt_or_ge i h.n with e | e
  · exact e
  · rw [h.get_ge i e] at hi; cases hi
theorem AHeap.get_put' (h : AHeap) (i : Nat) (o : Option AObj) (j : Nat) (hi : i < h.n ∨ o = none) : (h.put i o).get j = if j = i then o else h.get j := by
  simp only [AHeap.get, AHeap.put, Tr.get_set]
  by_cases e : j = i
  · subst e
    simp only [if_true]
    rcases hi with hi | hi
    · rw [if_pos hi]
    · subst hi; split <;> rfl
  · simp only [e, if_false]
theorem AHeap.get_kill (h : AHeap) (i j : Nat) : (h.put i none).get j = if j = i then none else h.get j := h.get_put' i none j (.inr rfl)
theorem AHeap.get_put {h : AHeap} {i : Nat} {o : AObj} (hi : h.get i = some o) (o' : Option AObj) (j : Nat) : (h.put i o').get j = if j = i then o' else h.get j := h.get_put' i o' j (.inl (AHeap.get_lt hi))

theorem pureRun_ok {P : Program} {α : Type} : ∀ {s : Sem α} {a : α}, pureRun P s = some a → ∀ w, s.run P w = .ok a w
  | .pure _, _, h, _ => by simp only [pureRun, Option.some.injEq] at h; subst h; rfl
  | .program k, _, h, w => by simp only [pureRun] at h; simp only [Sem.run]; exact pureRun_ok h w
  | .mark _ k, _, h, w => by simp only [pureRun] at h; simp only [Sem.run]; exact pureRun_ok h w
  | .load .., _, h, _ => by simp [pureRun] at h
  | .store .., _, h, _ => by simp [pureRun] at h
  | .new .., _, h, _ => by simp [pureRun] at h
  | .shape .., _, h, _ => by simp [pureRun] at h
  | .freeze .., _, h, _ => by simp [pureRun] at h
  | .frozen .., _, h, _ => by simp [pureRun] at h
  | .getObj .., _, h, _ => by simp [pureRun] at h
  | .setObj .., _, h, _ => by simp [pureRun] at h
  | .choose .., _, h, _ => by simp [pureRun] at h
  | .sys .., _, h, _ => by simp [pureRun] at h
  | .halt .., _, h, _ => by simp [pureRun] at h

/-! Tokens: '.chan (some k)' stands for the k-th number that is not known. -/
class Toks where
  B : Nat → Int
/-- From a million on a number's own mirror, 2^40 less the number; from two million on its rest by 256; from three million on its eighth part, cut towards nought. -/
def Toks.A [Toks] (k : Nat) : Int := if k < 1000000 then Toks.B k else if k < 2000000 then 1099511627776 - Toks.B (k - 1000000) else if k < 3000000 then Toks.B (k - 2000000) % 256 else IntKind.i64.wrap ((Toks.B (k - 3000000)).tdiv 8)
theorem Toks.A_low [Toks] {k : Nat} (h : k < 1000000) : Toks.A k = Toks.B k := by unfold Toks.A; rw [if_pos h]
theorem Toks.A_neg [Toks] {k : Nat} (h : k < 1000000) : Toks.A (k + 1000000) = 1099511627776 - Toks.A k := by
  rw [Toks.A_low h]; unfold Toks.A; rw [if_neg (by omega), if_pos (by omega), Nat.add_sub_cancel]
theorem Toks.A_byte [Toks] {k : Nat} (h : k < 1000000) : Toks.A (k + 2000000) = Toks.A k % 256 := by
  rw [Toks.A_low h]; unfold Toks.A; rw [if_neg (by omega), if_neg (by omega), if_pos (by omega), Nat.add_sub_cancel]
theorem Toks.A_eighth [Toks] {k : Nat} (h : k < 1000000) : Toks.A (k + 3000000) = IntKind.i64.wrap ((Toks.A k).tdiv 8) := by
  rw [Toks.A_low h]; unfold Toks.A; rw [if_neg (by omega), if_neg (by omega), if_neg (by omega), Nat.add_sub_cancel]
variable [Toks]

/-! Names. -/
structure Loc where
  b : Nat
  cap : Nat
  o : Nat
abbrev Ren := Nat → Option Loc
inductive LR {α β : Type} (R : α → β → Prop) : List α → List β → Prop where
  | nil : LR R [] []
  | cons {a b l m} : R a b → LR R l m → LR R (a :: l) (b :: m)
section LR
variable {α β : Type} {R R' : α → β → Prop}
omit [Toks] in
theorem LR.length {l : List α} {m : List β} (h : LR R l m) : m.length = l.length := by induction h <;> simp_all
omit [Toks] in
theorem LR.mono {l : List α} {m : List β} (h : LR R l m) (hr : ∀ a b, R a b → R' a b) : LR R' l m := by
  induction h with
  | nil => exact .nil
  | cons h _ ih => exact .cons (hr _ _ h) ih
omit [Toks] in
theorem LR.get {l : List α} {m : List β} (h : LR R l m) : ∀ (i : Nat) (a : α), l[i]? = some a → ∃ b, m[i]? = some b ∧ R a b := by
  induction h with
  | nil => intro i a h; simp at h
  | cons h1 _ ih =>
    intro i a h
    cases i with
    | zero => simp at h; subst h; exact ⟨_, rfl, h1⟩
    | succ i => simpa using ih i a (by simpa using h)
omit [Toks] in
theorem LR.append {l l2 : List α} {m m2 : List β} (h : LR R l m) (h2 : LR R l2 m2) : LR R (l ++ l2) (m ++ m2) := by
  induction h with
  | nil => exact h2
  | cons h1 _ ih => exact .cons h1 ih
omit [Toks] in
theorem LR.drop {l : List α} {m : List β} (h : LR R l m) : ∀ (n : Nat), LR R (l.drop n) (m.drop n) := by
  induction h with
  | nil => intro n; simpa using LR.nil
  | cons h1 h2 ih =>
    intro n
    cases n with
    | zero => exact .cons h1 h2
    | succ n => simpa using ih n
omit [Toks] in
theorem LR.take {l : List α} {m : List β} (h : LR R l m) : ∀ (n : Nat), LR R (l.take n) (m.take n) := by
  induction h with
  | nil => intro n; simpa using LR.nil
  | cons h1 h2 ih =>
    intro n
    cases n with
    | zero => exact .nil
    | succ n => exact .cons h1 (ih n)
omit [Toks] in
theorem LR.set {l : List α} {m : List β} {a : α} {b : β} (h : LR R l m) (hab : R a b) : ∀ (n : Nat), LR R (l.set n a) (m.set n b) := by
  induction h with
  | nil => intro n; exact .nil
  | cons h1 h2 ih =>
    intro n
    cases n with
    | zero => exact .cons hab h2
    | succ n => exact .cons h1 (ih n)
omit [Toks] in
theorem LR.refl_of {R : α → α → Prop} : ∀ {l : List α}, (∀ a ∈ l, R a a) → LR R l l
  | [], _ => .nil
  | a :: l, h => .cons (h a (by simp)) (LR.refl_of fun b hb => h b (by simp [hb]))
omit [Toks] in
theorem LR.of_get {l : List α} : ∀ {m : List β}, m.length = l.length → (∀ (i : Nat) (a : α), l[i]? = some a → ∃ b, m[i]? = some b ∧ R a b) → LR R l m := by
  induction l with
  | nil => intro m h _; cases m <;> simp_all; exact .nil
  | cons a l ih =>
    intro m h hg
    cases m with
    | nil => simp at h
    | cons b m =>
      obtain ⟨b', h1, h2⟩ := hg 0 a rfl
      simp at h1; subst h1
      exact .cons h2 (ih (by simpa using h) fun i x hx => by simpa using hg (i + 1) x (by simpa using hx))
end LR

/-- What a token of floats stands for: a whole number as a float, or two as a complex number. -/
def FloatHeld (a b : Int) : Value → Value → Prop
  | .float _ c, v' => v' = .float .f64 (floatOfInt .f64 (a + (c : Int)))
  | .iface lo (.iface hi (.complex _ c d)), v' => ((0 : Int) ≤ b ∧ (lo : Int) ≤ b ∧ b ≤ (hi : Int)) ∧ v' = .complex .f64 (floatOfInt .f64 (a + (c : Int))) (floatOfInt .f64 (b + (d : Int)))
  | _, _ => False
omit [Toks] in
theorem FloatHeld.one {a b : Int} {q v' : Value} (h : FloatHeld a b q v') : (∃ x, v' = .float .f64 x) ∨ ∃ x y, v' = .complex .f64 x y := by
  unfold FloatHeld at h
  split at h
  · exact .inl ⟨_, h⟩
  · exact .inr ⟨_, _, h.2⟩
  · exact h.elim
def VR00 (ρ : Ren) : Value → Value → Prop
  | .pointer (some a), v' => a.spot = none ∧ ∃ l, ρ a.block = some l ∧ v' = .pointer (some ⟨l.b, l.o + a.off, none⟩)
  | .slice (some a) n c, v' => n ≤ c ∧ ∃ l o' c', ρ a.block = some l ∧ v' = .slice (some ⟨l.b, o', none⟩) n c' ∧ c ≤ c' ∧ (0 < c' → o' = l.o + a.off) ∧ (a.spot = none → c' = c) ∧ (a.spot ≠ none → 0 < c' → a.off = 0 → c' = l.cap)
  | .map (some r), v' => ∃ l, ρ r = some l ∧ v' = .map (some l.b)
  | .chan (some k), v' => v' = .int .i64 (Toks.A k)
  | .iface t (.iface lo (.iface hi (.int k c))), v' => v' = .int k (Toks.A t + c) ∧ (lo : Int) ≤ Toks.A t ∧ Toks.A t ≤ (hi : Int)
  | .iface t (.iface lo (.iface hi (.iface u q))), v' => ((0 : Int) ≤ Toks.A t ∧ (lo : Int) ≤ Toks.A t ∧ Toks.A t ≤ (hi : Int)) ∧ FloatHeld (Toks.A t) (Toks.A u) q v'
  | v, v' => flat0 v = true ∧ v' = v
def VR0 (ρ : Ren) : Value → Value → Prop
  | .func fn f c, v' => ∃ f' c', v' = .func fn f' c' ∧ LR (VR00 ρ) f.toList f'.toList ∧ LR (VR00 ρ) c.toList c'.toList
  | v, v' => VR00 ρ v v'
def VR1 (ρ : Ren) : Value → Value → Prop
  | .agg cs, v' => ∃ cs', v' = .agg cs' ∧ LR (VR0 ρ) cs.toList cs'.toList
  | v, v' => VR0 ρ v v'
def VR (ρ : Ren) : Value → Value → Prop
  | .tuple vs, v' => ∃ vs', v' = .tuple vs' ∧ LR (VR1 ρ) vs.toList vs'.toList
  | v, v' => VR1 ρ v v'
def Ren.le (ρ ρ' : Ren) : Prop := ∀ i l, ρ i = some l → ρ' i = some l
section
variable {ρ ρ' : Ren}
theorem VR00.mono (h : ρ.le ρ') : ∀ {v v' : Value}, VR00 ρ v v' → VR00 ρ' v v' := by
  intro v v' hv
  unfold VR00 at *
  split at hv
  · obtain ⟨h1, l, h2, h3⟩ := hv
    exact ⟨h1, l, h _ _ h2, h3⟩
  · obtain ⟨h0, l, o', c', h1, h2⟩ := hv
    exact ⟨h0, l, o', c', h _ _ h1, h2⟩
  · obtain ⟨l, h1, h2⟩ := hv
    exact ⟨l, h _ _ h1, h2⟩
  · exact hv
  · exact hv
  · exact hv
  · exact hv
theorem VR0.mono (h : ρ.le ρ') : ∀ {v v' : Value}, VR0 ρ v v' → VR0 ρ' v v' := by
  intro v v' hv
  unfold VR0 at *
  split at hv
  · obtain ⟨f', c', h1, h2, h3⟩ := hv
    exact ⟨f', c', h1, h2.mono fun _ _ => VR00.mono h, h3.mono fun _ _ => VR00.mono h⟩
  · exact VR00.mono h hv
theorem VR1.mono (h : ρ.le ρ') : ∀ {v v' : Value}, VR1 ρ v v' → VR1 ρ' v v' := by
  intro v v' hv
  unfold VR1 at *
  split at hv
  · obtain ⟨c', h1, h2⟩ := hv
    exact ⟨c', h1, h2.mono fun _ _ => VR0.mono h⟩
  · exact VR0.mono h hv
theorem VR.mono (h : ρ.le ρ') : ∀ {v v' : Value}, VR ρ v v' → VR ρ' v v' := by
  intro v v' hv
  unfold VR at *
  split at hv
  · obtain ⟨c', h1, h2⟩ := hv
    exact ⟨c', h1, h2.mono fun _ _ => VR1.mono h⟩
  · exact VR1.mono h hv
theorem VR00.flat {v : Value} (h : flat0 v = true) (hf : ∀ fn f c, v ≠ .func fn f c) : VR00 ρ v v := by
  unfold VR00
  split
  · simp [flat0] at h
  · simp [flat0] at h
  · simp [flat0] at h
  · simp [flat0] at h
  · simp [flat0] at h
  · simp [flat0] at h
  · exact ⟨h, rfl⟩
theorem VR0.flat {v : Value} (h : flat0 v = true) : VR0 ρ v v := by
  unfold VR0
  split
  · rename_i fn f c
    simp only [flat0, Bool.and_eq_true, Array.isEmpty_iff] at h
    obtain ⟨rfl, rfl⟩ := h
    exact ⟨_, _, rfl, .nil, .nil⟩
  · rename_i hne
    exact VR00.flat h hne
theorem VR1.flat {v : Value} (h : flat1 v = true) : VR1 ρ v v := by
  unfold VR1
  split
  · rename_i cs
    simp only [flat1, List.all_eq_true] at h
    exact ⟨cs, rfl, LR.refl_of fun a ha => VR0.flat (h a ha)⟩
  · rename_i hne
    refine VR0.flat ?_
    unfold flat1 at h
    split at h
    · exact absurd rfl (hne _)
    · exact h
theorem VR.flat {v : Value} (h : flat2 v = true) : VR ρ v v := by
  unfold VR
  split
  · rename_i cs
    simp only [flat2, List.all_eq_true] at h
    exact ⟨cs, rfl, LR.refl_of fun a ha => VR1.flat (h a ha)⟩
  · rename_i hne
    refine VR1.flat ?_
    unfold flat2 at h
    split at h
    · exact absurd rfl (hne _)
    · exact h
omit [Toks] in
theorem LR.eq_of {α : Type} {R : α → α → Prop} {p : α → Bool} (hr : ∀ a b, p a = true → R a b → b = a) : ∀ {l m : List α}, l.all p = true → LR R l m → m = l
  | [], _, _, .nil => rfl
  | a :: l, _, h, .cons h1 h2 => by
    simp only [List.all_cons, Bool.and_eq_true] at h
    rw [hr _ _ h.1 h1, LR.eq_of hr h.2 h2]
theorem VR00.eq {v v' : Value} (h : flat0 v = true) (hv : VR00 ρ v v') : v' = v := by
  unfold VR00 at hv
  split at hv
  · simp [flat0] at h
  · simp [flat0] at h
  · simp [flat0] at h
  · simp [flat0] at h
  · simp [flat0] at h
  · simp [flat0] at h
  · exact hv.2
theorem VR0.eq {v v' : Value} (h : flat0 v = true) (hv : VR0 ρ v v') : v' = v := by
  unfold VR0 at hv
  split at hv
  · rename_i fn f c
    simp only [flat0, Bool.and_eq_true, Array.isEmpty_iff] at h
    obtain ⟨rfl, rfl⟩ := h
    obtain ⟨f', c', rfl, h1, h2⟩ := hv
    have e1 : f' = #[] := by apply Array.toList_inj.1; have := h1.length; simp at this; simp [this]
    have e2 : c' = #[] := by apply Array.toList_inj.1; have := h2.length; simp at this; simp [this]
    rw [e1, e2]
  · exact VR00.eq h hv
theorem VR1.eq {v v' : Value} (h : flat1 v = true) (hv : VR1 ρ v v') : v' = v := by
  unfold VR1 at hv
  split at hv
  · simp only [flat1] at h
    obtain ⟨c', rfl, h1⟩ := hv
    rw [Array.toList_inj.1 (LR.eq_of (fun _ _ => VR0.eq) h h1)]
  · rename_i hne
    refine VR0.eq ?_ hv
    unfold flat1 at h
    split at h
    · exact absurd rfl (hne _)
    · exact h
theorem VR.eq {v v' : Value} (h : flat2 v = true) (hv : VR ρ v v') : v' = v := by
  unfold VR at hv
  split at hv
  · simp only [flat2] at h
    obtain ⟨c', rfl, h1⟩ := hv
    rw [Array.toList_inj.1 (LR.eq_of (fun _ _ => VR1.eq) h h1)]
  · rename_i hne
    refine VR1.eq ?_ hv
    unfold flat2 at h
    split at h
    · exact absurd rfl (hne _)
    · exact h
end

/-! The world. -/
/-- M: numbers from M on may be taken by what lies elsewhere. -/
def CellHeld (ρ : Ren) (o : AObj) (l : Loc) (w : World) : Prop := ∃ (cs : Array Value) (fz : Nat × Nat), w.heap[l.b]? = some (.cells cs o.elem fz) ∧ (∀ (k : Nat) (u : Value), o.cells[k]? = some u → ∃ u', cs[l.o + k]? = some u' ∧ VR0 ρ u u') ∧
    (o.kind ≠ 2 → ∀ k, k < cs.size → (decide (fz.1 ≤ k) && decide (k < fz.2)) = false) ∧ (o.kind = 0 → fz = (0, 0)) ∧ (o.kind ≠ 2 → cs.size = o.es * l.cap ∧ l.o = 0)
def EntR (ρ : Ren) (v : Value) (e : MapEntry) : Prop := ∃ a b, v = .tuple #[a, b] ∧ VR1 ρ a e.key ∧ VR1 ρ b e.val
def MapHeld (ρ : Ren) (o : AObj) (l : Loc) (w : World) : Prop := ∃ (es : Array MapEntry) (ck : Nat), w.heap[l.b]? = some (.map es ck) ∧ LR (EntR ρ) o.cells es.toList ∧ (es.toList.map (·.born)).Nodup ∧ ∀ e ∈ es.toList, e.born < ck
def IterHeld (o : AObj) (l : Loc) (w : World) : Prop := ∃ (s : ByteArray) (pos : Nat), o.cells = [.string s, goInt pos] ∧ w.heap[l.b]? = some (.stringIter s pos) ∧ l.o = 0
structure Held (ρ : Ren) (o : AObj) (l : Loc) (w : World) : Prop where
  cells : o.kind < 3 → CellHeld ρ o l w
  map : o.kind = 3 → MapHeld ρ o l w
  iter : o.kind = 4 → IterHeld o l w
theorem Held.ofCells {ρ : Ren} {o : AObj} {l : Loc} {w : World} (hk : o.kind < 3) (h : CellHeld ρ o l w) : Held ρ o l w := ⟨fun _ => h, fun e => absurd hk (by omega), fun e => absurd hk (by omega)⟩
structure Sim (M : Nat) (ρ : Ren) (h : AHeap) (w : World) : Prop where
  ok : ∀ (i : Nat) (o : AObj) (l : Loc), h.get i = some o → ρ i = some l → Held ρ o l w
  inj : ∀ i j o o' l l', h.get i = some o → h.get j = some o' → ρ i = some l → ρ j = some l' → l.b = l'.b → i = j ∨ (o.kind = 2 ∧ o'.kind = 2)
  dom : ∀ i l, ρ i = some l → (i < h.n ∨ M ≤ i) ∧ l.b < w.heap.size
  fresh : ∀ i, h.n ≤ i → h.get i = none
  le : h.n ≤ M
structure Ext (ρ ρ' : Ren) (h h' : AHeap) (w w' : World) : Prop where
  sub : ρ.le ρ'
  new : ∀ i l, ρ' i = some l → ρ i = none → h.n ≤ i ∧ i < h'.n ∧ (w.heap.size ≤ l.b ∨ ∃ j l' o, ρ j = some l' ∧ h.get j = some o ∧ o.kind ≠ 2 ∧ l'.b = l.b)
  alive : ∀ i o, i < h.n → h'.get i = some o → ∃ o', h.get i = some o'
  out : ∀ i, i < h.n → ρ i = none → h'.get i = h.get i
  n_le : h.n ≤ h'.n
  size : w.heap.size ≤ w'.heap.size
  os : w'.os = w.os
  tape : w'.tape = w.tape
  output : w'.output = w.output
  frame : ∀ b, b < w.heap.size → (∀ i l o, ρ i = some l → h.get i = some o → o.kind ≠ 2 → l.b ≠ b) → w'.heap[b]? = w.heap[b]?
  ro : ∀ i o, h.get i = some o → o.kind = 2 → h'.get i = some o ∧ ∀ l, ρ i = some l → w'.heap[l.b]? = w.heap[l.b]?
  old2 : ∀ i o l, h'.get i = some o → ρ' i = some l → o.kind = 2 → h.get i = some o
omit [Toks] in
theorem AHeap.cel_get {h : AHeap} {i : Nat} {o : AObj} (hc : h.cel i = some o) : h.get i = some o ∧ o.kind < 3 := by
  unfold AHeap.cel at hc
  split at hc
  · split at hc
    · cases hc
    · rename_i o' ho hk
      injection hc with hc
      subst hc
      refine ⟨ho, ?_⟩
      simpa using hk
  · cases hc
theorem EntR.mono {ρ ρ' : Ren} (h : ρ.le ρ') {v : Value} {e : MapEntry} : EntR ρ v e → EntR ρ' v e := fun ⟨a, b, h1, h2, h3⟩ => ⟨a, b, h1, h2.mono h, h3.mono h⟩
theorem Held.move {ρ ρ' : Ren} {o : AObj} {l : Loc} {w w' : World} (h : Held ρ o l w) (hl : ρ.le ρ') (hw : w'.heap[l.b]? = w.heap[l.b]?) : Held ρ' o l w' where
  cells := fun hk => by
    obtain ⟨cs, fz, h1, h2, h3⟩ := h.cells hk
    exact ⟨cs, fz, hw.trans h1, fun k u hu => by obtain ⟨u', a, b⟩ := h2 k u hu; exact ⟨u', a, b.mono hl⟩, h3⟩
  map := fun hk => by
    obtain ⟨es, ck, h1, h2, h3⟩ := h.map hk
    exact ⟨es, ck, hw.trans h1, h2.mono fun _ _ => EntR.mono hl, h3⟩
  iter := fun hk => by
    obtain ⟨s, pos, h1, h2⟩ := h.iter hk
    exact ⟨s, pos, h1, hw.trans h2.1, h2.2⟩
section
variable {ρ ρ' ρ'' : Ren} {h h' h'' : AHeap} {w w' w'' : World}
omit [Toks] in
theorem Ren.le_refl (ρ : Ren) : ρ.le ρ := fun _ _ h => h
omit [Toks] in
theorem Ext.refl (ρ : Ren) (h : AHeap) (w : World) : Ext ρ ρ h h w w :=
  ⟨Ren.le_refl _, (fun _ _ h1 h2 => by rw [h1] at h2; cases h2), fun _ o _ h => ⟨o, h⟩, fun _ _ _ => rfl, Nat.le_refl _, Nat.le_refl _, rfl, rfl, rfl, fun _ _ _ => rfl, fun _ _ h1 _ => ⟨h1, fun _ _ => rfl⟩, fun _ _ _ h1 _ _ => h1⟩
theorem Sim.lt {M : Nat} (s : Sim M ρ h w) {i : Nat} {o : AObj} (hi : h.get i = some o) : i < h.n := by
  rcases Nat.lt_or_ge i h.n with e | e
  · exact e
  · rw [s.fresh i e] at hi; cases hi
theorem Ext.back {M : Nat} (s : Sim M ρ h w) (s' : Sim M ρ' h' w') (a : Ext ρ ρ' h h' w w') {i : Nat} {l : Loc} {o : AObj} (h1 : ρ' i = some l) (h2 : h'.get i = some o) (hk : o.kind ≠ 2) : w.heap.size ≤ l.b ∨ ∃ j l' o', ρ j = some l' ∧ h.get j = some o' ∧ o'.kind ≠ 2 ∧ l'.b = l.b := by
  cases h3 : ρ i with
  | some l2 =>
    have e := a.sub _ _ h3
    rw [h1] at e
    cases e
    rcases (s.dom _ _ h3).1 with hlt | hge
    · obtain ⟨o', ho'⟩ := a.alive i o hlt h2
      refine .inr ⟨i, l, o', h3, ho', fun e2 => hk ?_, rfl⟩
      have e3 := (a.ro i o' ho' e2).1
      rw [h2] at e3
      cases e3
      exact e2
    · have := s'.lt h2
      have := s'.le
      omega
  | none => exact (a.new i l h1 h3).2.2
theorem Ext.trans {M : Nat} (s : Sim M ρ h w) (s' : Sim M ρ' h' w') (a : Ext ρ ρ' h h' w w') (b : Ext ρ' ρ'' h' h'' w' w'') : Ext ρ ρ'' h h'' w w'' where
  sub := fun i l hi => b.sub i l (a.sub i l hi)
  new := fun i l h1 h2 => by
    cases h3 : ρ' i with
    | some l' =>
      have e := b.sub _ _ h3
      rw [h1] at e
      cases e
      obtain ⟨x, y, z⟩ := a.new i l h3 h2
      exact ⟨x, Nat.lt_of_lt_of_le y b.n_le, z⟩
    | none =>
      obtain ⟨x, y, z⟩ := b.new i l h1 h3
      refine ⟨Nat.le_trans a.n_le x, y, ?_⟩
      rcases z with z | ⟨j, l', o, z1, z2, zk, z3⟩
      · exact .inl (Nat.le_trans a.size z)
      · rw [← z3]
        exact a.back s s' z1 z2 zk
  alive := fun i o hi ho => by
    obtain ⟨o', ho'⟩ := b.alive i o (Nat.lt_of_lt_of_le hi a.n_le) ho
    exact a.alive i o' hi ho'
  out := fun i hi hn => by
    have : ρ' i = none := by
      cases e : ρ' i with
      | none => rfl
      | some l => have := (a.new i l e hn).1; omega
    rw [b.out i (Nat.lt_of_lt_of_le hi a.n_le) this, a.out i hi hn]
  n_le := Nat.le_trans a.n_le b.n_le
  size := Nat.le_trans a.size b.size
  os := b.os.trans a.os
  tape := b.tape.trans a.tape
  output := b.output.trans a.output
  frame := fun k hk hn => by
    refine (b.frame k (Nat.lt_of_lt_of_le hk a.size) fun i l o hi ho hk2 e => ?_).trans (a.frame k hk hn)
    rcases a.back s s' hi ho hk2 with z | ⟨j, l', o', z1, z2, zk, z3⟩
    · omega
    · exact hn j l' o' z1 z2 zk (z3.trans e)
  ro := fun i o hi hk => by
    obtain ⟨a1, a2⟩ := a.ro i o hi hk
    obtain ⟨b1, b2⟩ := b.ro i o a1 hk
    exact ⟨b1, fun l hl => (b2 l (a.sub _ _ hl)).trans (a2 l hl)⟩
  old2 := fun i o l hi hl hk => by
    have h1 := b.old2 i o l hi hl hk
    cases h3 : ρ' i with
    | some l' => exact a.old2 i o l' h1 h3 hk
    | none =>
      have h4 := (b.new i l hl h3).1
      rw [s'.fresh i h4] at h1
      cases h1
end
end Go.Proofs.Ytfbedlhigggggaa
