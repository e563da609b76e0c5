/- The plain master turns a task. -/
import Derived.Test.YtiflhfhonhbcpaaRmB
namespace Go.Proofs.Ytiflhfhonhbcpaa.Mas
open Go Go.RowKit Go.Proofs.Ytiflhfhonhbcpaa Go.Proofs.Ytiflhfhonhbcpaa.Crw Go.ChangeShapes Go.WideShapes Go.ChangeAt
set_option linter.unusedVariables false
set_option maxRecDepth 100000
section
variable {w w' : World} {B m : Nat} {V U : Nat → Prop} {a b c : Value} {L : List Rk} {f t : ByteArray}
/-- Where the key is, or will be. -/
def UpL (L L1 : List Rk) (f t : ByteArray) (k : Nat) (x : Rk) : Prop :=
  (L1 = L ∧ rsame f t x = true ∧ ∀ (j : Nat) (y : Rk), L[j]? = some y → j < k → rsame f t y = false) ∨
  (L1 = L ++ [x] ∧ x = ⟨f, t, 0, .slice none 0 0, []⟩ ∧ k = L.length ∧ ∀ (j : Nat) (y : Rk), L[j]? = some y → rsame f t y = false)
theorem At_any (h : RmP w B m V a b c L) {L1 : List Rk} {k : Nat} {x : Rk} (hx : L1[k]? = some x) (hu : UpL L L1 f t k x) :
    ∃ q : Int, Calls Try.prog 51 #[.pointer (some ⟨m, 0, none⟩), .agg #[.string f, .string t]] w (fun r w' => r = .returned (.int .i64 q) ∧ Below w.heap.size w w') ∧ ((q = k ∧ L1 = L) ∨ (q = -1 ∧ L1 = L ++ [x] ∧ x = ⟨f, t, 0, .slice none 0 0, []⟩ ∧ k = L.length)) := by
  rcases hu with ⟨rfl, h1, h2⟩ | ⟨h1, h2, h3, h4⟩
  · exact ⟨k, At_yes h hx h1 h2, .inl ⟨rfl, rfl⟩⟩
  · exact ⟨-1, At_no h h4, .inr ⟨rfl, h1, h2, h3⟩⟩
/-- What the plain master is behind an update; a new block that is not its own. -/
def RHeard (w : World) (B m : Nat) (V : Nat → Prop) (P : List Rk → Prop) (c : Nat) (w' : World) : Prop :=
  w.heap.size ≤ c ∧ ∃ V' a b d L2, P L2 ∧ RmP w' B m V' a b d L2 ∧ (∀ g, V g → V' g) ∧ (∀ g, V' g → V g ∨ w.heap.size ≤ g) ∧ Vol V w w' ∧ ¬ V' c
def RMid (w : World) (B m : Nat) (V : Nat → Prop) (L1 : List Rk) (wx : World) : Prop :=
  ∃ V' a b d, RmP wx B m V' a b d L1 ∧ (∀ g, V g → V' g) ∧ (∀ g, V' g → V g ∨ w.heap.size ≤ g) ∧ Vol V w wx
theorem own_ne {e e' : TypeId} {z z' n n' B' : Nat} {v v' : Value} {xs xs' : List Value} (h : w.ownsRow B e z v n xs) (h' : w.ownsRow B' e' z' v' n' xs') (hne : e ≠ e') {g : Nat} (hg : v.ownBlock = some g) : v'.ownBlock ≠ some g := by
  intro hg'
  rcases h.2 with ⟨rfl, -⟩ | ⟨g1, c1, cur, rfl, -, hh, -⟩
  · simp [Value.ownBlock] at hg
  · rcases h'.2 with ⟨rfl, -⟩ | ⟨g2, c2, cur2, rfl, -, hh2, -⟩
    · simp [Value.ownBlock] at hg'
    · simp only [Value.ownBlock, Option.some.injEq] at hg hg'
      rw [hg] at hh
      rw [hg', hh] at hh2
      injection hh2 with hh2
      injection hh2 with _ hh2
      exact hne hh2
theorem own_blk_ne2 {e t : TypeId} {z n g' : Nat} {v : Value} {xs : List Value} {cs : Array Value} (h : w.ownsRow B e z v n xs) (h' : Blk w g' t cs) (hne : e ≠ t) {g : Nat} (hg : v.ownBlock = some g) : g ≠ g' := by
  rintro rfl
  rcases h.2 with ⟨rfl, -⟩ | ⟨g1, c1, cur, rfl, -, hh, -⟩
  · simp [Value.ownBlock] at hg
  · simp only [Value.ownBlock, Option.some.injEq] at hg
    rw [hg] at hh
    have h2 : w.heap[g]? = some (.cells cs t (0, 0)) := h'
    rw [hh] at h2
    injection h2 with h2
    injection h2 with _ h2
    exact hne h2
theorem rkV_set {L : List Rk} {k : Nat} {x x' : Rk} (h : L[k]? = some x) (hf : x'.f = x.f) (ht : x'.t = x.t) : rkV (L.set k x') = rkV L := by
  induction L generalizing k with
  | nil => rfl
  | cons a r ih =>
    cases k with
    | zero =>
      simp only [List.getElem?_cons_zero, Option.some.injEq] at h
      subst h
      simp [rkV, rkC, hf, ht]
    | succ k =>
      have := ih (k := k) (by simpa using h)
      simp only [rkV, List.set_cons_succ, List.flatMap_cons] at this ⊢
      rw [this]
theorem get_setR {R : List Rk} {j k : Nat} {x y : Rk} (h : (R.set j x)[k]? = some y) : (k = j ∧ y = x) ∨ (k ≠ j ∧ R[k]? = some y) := by
  rw [List.getElem?_set] at h
  by_cases e : j = k
  · subst e
    rw [if_pos rfl] at h
    split at h
    · injection h with h
      exact .inl ⟨rfl, h.symm⟩
    · cases h
  · rw [if_neg e] at h
    exact .inr ⟨fun q => e q.symm, h⟩
theorem RmP.turn (h : RmP w B m V a b c L) {k : Nat} {x x' : Rk} (hx : L[k]? = some x) (hf : x'.f = x.f) (ht : x'.t = x.t)
    (hvol : Vol (fun g => b.ownBlock = some g ∨ c.ownBlock = some g ∨ x.v.ownBlock = some g) w w')
    (hs : w'.ownsRow B 3 1 b L.length (rsV (L.set k x'))) (hh : w'.ownsRow B 22 1 c L.length (rhV (L.set k x')))
    (hrow : w'.ownsRow B 3 1 x'.v x'.ns.length (ints x'.ns)) (hv : ∀ g, x'.v.ownBlock = some g → x.v.ownBlock = some g ∨ w.heap.size ≤ g) :
    RmP w' B m (fun g => V g ∨ (w.heap.size ≤ g ∧ x'.v.ownBlock = some g)) a b c (L.set k x') := by
  have nkb : (46 : TypeId) ≠ 3 := by decide
  have nkc : (46 : TypeId) ≠ 22 := by decide
  have nbc : (3 : TypeId) ≠ 22 := by decide
  have nbm : (3 : TypeId) ≠ 41 := by decide
  have ncm : (22 : TypeId) ≠ 41 := by decide
  have hr := h.rows k x hx
  have hBw : B ≤ w.heap.size := Nat.le_trans (h.ge m h.vm) (Nat.le_of_lt h.blk.lt)
  have old : ∀ {g : Nat}, V g → ¬ w.heap.size ≤ g := fun hg => Nat.not_le.2 (h.lt _ hg)
  refine ⟨?_, ?_, by rw [List.length_set]; exact hs, by rw [List.length_set]; exact hh, ?_, ?_, ?_, .inl h.vm, fun g hg => .inl (h.va g hg), fun g hg => .inl (h.vb g hg), fun g hg => .inl (h.vc g hg), ?_, ?_, ?_, by rw [List.length_set]; exact h.len⟩
  · refine blk_vol h.blk hvol ?_
    rintro (e | e | e)
    · exact own_blk_ne2 h.ss h.blk nbm e rfl
    · exact own_blk_ne2 h.hs h.blk ncm e rfl
    · exact own_blk_ne2 hr h.blk nbm e rfl
  · rw [List.length_set, rkV_set hx hf ht]
    refine own_vol h.ks hvol ?_
    rintro g hg (e | e | e)
    · exact own_ne h.ks h.ss nkb hg e
    · exact own_ne h.ks h.hs nkc hg e
    · exact own_ne h.ks hr nkb hg e
  · intro j y hy
    rcases get_setR hy with ⟨rfl, rfl⟩ | ⟨hj, hy⟩
    · exact hrow
    · refine own_vol (h.rows j y hy) hvol ?_
      rintro g hg (e | e | e)
      · exact h.apb j y hy g hg e
      · exact own_ne (h.rows j y hy) h.hs nbc hg e
      · exact h.apart j k y x hy hx hj g hg e
  · intro j i y z hy hz hji g hg
    rcases get_setR hy with ⟨rfl, rfl⟩ | ⟨hj, hy2⟩
    · rcases get_setR hz with ⟨rfl, rfl⟩ | ⟨hi, hz⟩
      · exact absurd rfl hji
      · intro hg2
        rcases hv g hg with e | e
        · exact h.apart j i x z hx hz hji g e hg2
        · exact old (h.vx i z hz g hg2) e
    · rcases get_setR hz with ⟨rfl, rfl⟩ | ⟨hi, hz2⟩
      · intro hg2
        rcases hv g hg2 with e | e
        · exact h.apart j i y x hy2 hx hji g hg e
        · exact old (h.vx j y hy2 g hg) e
      · exact h.apart j i y z hy2 hz2 hji g hg
  · intro j y hy g hg hg2
    rcases get_setR hy with ⟨rfl, rfl⟩ | ⟨hj, hy⟩
    · rcases hv g hg with e | e
      · exact h.apb j x hx g e hg2
      · exact old (h.vb g hg2) e
    · exact h.apb j y hy g hg hg2
  · intro j y hy g hg
    rcases get_setR hy with ⟨rfl, rfl⟩ | ⟨hj, hy⟩
    · rcases hv g hg with e | e
      · exact .inl (h.vx j x hx g e)
      · exact .inr ⟨e, hg⟩
    · exact .inl (h.vx j y hy g hg)
  · rintro g (hg | ⟨h1, hg⟩)
    · exact Nat.lt_of_lt_of_le (h.lt g hg) hvol.size
    · rcases hrow.2 with ⟨e, -⟩ | ⟨g1, c1, cur, e, -, hh1, -⟩
      · rw [e] at hg; simp [Value.ownBlock] at hg
      · rw [e] at hg
        simp only [Value.ownBlock, Option.some.injEq] at hg
        rw [← hg]
        exact (List.getElem?_eq_some_iff.1 (by simpa using hh1)).1
  · rintro g (hg | ⟨h1, hg⟩)
    · exact h.ge g hg
    · exact Nat.le_trans hBw h1
theorem get_pushR {R : List Rk} {k : Nat} {x y : Rk} (h : (R ++ [x])[k]? = some y) : (k = R.length ∧ y = x) ∨ (k < R.length ∧ R[k]? = some y) := by
  rcases Nat.lt_or_ge k R.length with e | e
  · rw [List.getElem?_append_left e] at h
    exact .inr ⟨e, h⟩
  · rw [List.getElem?_append_right e] at h
    have : k - R.length = 0 := by
      rcases Nat.eq_zero_or_pos (k - R.length) with q | q
      · exact q
      · rw [List.getElem?_eq_none (by simp; omega)] at h
        cases h
    rw [this] at h
    injection h with h
    exact .inl ⟨by omega, h.symm⟩
abbrev rkN (f t : ByteArray) : Rk := ⟨f, t, 0, .slice none 0 0, []⟩
theorem own_ltS {e : TypeId} {z n : Nat} {v : Value} {xs : List Value} (h : w.ownsRow B e z v n xs) {g : Nat} (hg : v.ownBlock = some g) : g < w.heap.size ∧ B ≤ g := by
  rcases h.2 with ⟨rfl, -⟩ | ⟨g1, c1, cur, rfl, hB, hh1, -⟩
  · simp [Value.ownBlock] at hg
  · simp only [Value.ownBlock, Option.some.injEq] at hg
    rw [← hg]
    exact ⟨(Array.getElem?_eq_some_iff.1 hh1).1, hB⟩
theorem RmP.push (h : RmP w B m V a b c L) {f t : ByteArray} {a' b' c' : Value} (hl : L.length < 100)
    (hvol : Vol (fun g => g = m ∨ a.ownBlock = some g ∨ b.ownBlock = some g ∨ c.ownBlock = some g) w w') (hblk : Blk w' m 41 #[a', b', c'])
    (ha : w'.ownsRow B 46 2 a' (L.length + 1) (rkV (L ++ [rkN f t]))) (hb : w'.ownsRow B 3 1 b' (L.length + 1) (rsV (L ++ [rkN f t]))) (hc : w'.ownsRow B 22 1 c' (L.length + 1) (rhV (L ++ [rkN f t])))
    (va : ∀ g, a'.ownBlock = some g → a.ownBlock = some g ∨ w.heap.size ≤ g) (vb : ∀ g, b'.ownBlock = some g → b.ownBlock = some g ∨ w.heap.size ≤ g) (vc : ∀ g, c'.ownBlock = some g → c.ownBlock = some g ∨ w.heap.size ≤ g) :
    RmP w' B m (fun g => V g ∨ (w.heap.size ≤ g ∧ (a'.ownBlock = some g ∨ b'.ownBlock = some g ∨ c'.ownBlock = some g))) a' b' c' (L ++ [rkN f t]) := by
  have nkb : (46 : TypeId) ≠ 3 := by decide
  have nbc : (3 : TypeId) ≠ 22 := by decide
  have nbm : (3 : TypeId) ≠ 41 := by decide
  have hBw : B ≤ w.heap.size := Nat.le_trans (h.ge m h.vm) (Nat.le_of_lt h.blk.lt)
  have old : ∀ {g : Nat}, V g → ¬ w.heap.size ≤ g := fun hg => Nat.not_le.2 (h.lt _ hg)
  have hll : (L ++ [rkN f t]).length = L.length + 1 := by simp
  have nn : ∀ {x : Rk} {g : Nat}, x = rkN f t → x.v.ownBlock ≠ some g := by
    rintro x g rfl
    simp [Value.ownBlock]
  refine ⟨hblk, by rw [hll]; exact ha, by rw [hll]; exact hb, by rw [hll]; exact hc, ?_, ?_, ?_, .inl h.vm, ?_, ?_, ?_, ?_, ?_, ?_, by rw [hll]; omega⟩
  · intro j y hy
    rcases get_pushR hy with ⟨rfl, rfl⟩ | ⟨hj, hy2⟩
    · exact ⟨by simp, .inl ⟨rfl, rfl⟩⟩
    · refine own_vol (h.rows j y hy2) hvol ?_
      rintro g hg (e | e | e | e)
      · exact own_blk_ne2 (h.rows j y hy2) h.blk nbm hg e
      · exact own_ne (h.rows j y hy2) h.ks nkb.symm hg e
      · exact h.apb j y hy2 g hg e
      · exact own_ne (h.rows j y hy2) h.hs nbc hg e
  · intro j i y z hy hz hji g hg hg2
    rcases get_pushR hy with ⟨-, q⟩ | ⟨hj, hy2⟩
    · exact nn q hg
    · rcases get_pushR hz with ⟨-, q⟩ | ⟨hi, hz2⟩
      · exact nn q hg2
      · exact h.apart j i y z hy2 hz2 hji g hg hg2
  · intro j y hy g hg hg2
    rcases get_pushR hy with ⟨-, q⟩ | ⟨hj, hy2⟩
    · exact nn q hg
    · rcases vb g hg2 with e | e
      · exact h.apb j y hy2 g hg e
      · exact old (h.vx j y hy2 g hg) e
  · intro g hg
    rcases va g hg with e | e
    · exact .inl (h.va g e)
    · exact .inr ⟨e, .inl hg⟩
  · intro g hg
    rcases vb g hg with e | e
    · exact .inl (h.vb g e)
    · exact .inr ⟨e, .inr (.inl hg)⟩
  · intro g hg
    rcases vc g hg with e | e
    · exact .inl (h.vc g e)
    · exact .inr ⟨e, .inr (.inr hg)⟩
  · intro j y hy g hg
    rcases get_pushR hy with ⟨-, q⟩ | ⟨hj, hy2⟩
    · exact absurd hg (nn q)
    · exact .inl (h.vx j y hy2 g hg)
  · rintro g (hg | ⟨h1, hg | hg | hg⟩)
    · exact Nat.lt_of_lt_of_le (h.lt g hg) hvol.size
    · exact (own_ltS ha hg).1
    · exact (own_ltS hb hg).1
    · exact (own_ltS hc hg).1
  · rintro g (hg | ⟨h1, hg⟩)
    · exact h.ge g hg
    · exact Nat.le_trans hBw h1
end
end Go.Proofs.Ytiflhfhonhbcpaa.Mas
